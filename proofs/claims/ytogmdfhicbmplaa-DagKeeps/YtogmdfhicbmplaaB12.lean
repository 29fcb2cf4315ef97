import Derived.Test.YtogmdfhicbmplaaB09
import Derived.Test.YtogmdfhicbmplaaB11
import Derived.Test.YtogmdfhicbmplaaB10
namespace Go.Proofs.Ytogmdfhicbmplaa
open Go.RowKit
set_option linter.unusedSimpArgs false
set_option linter.unusedVariables false

theorem Try.in31 (w : World) (vs : Array Value) : (callFunc 31 vs).run Try.prog w = .ok (.enter 31 vs) w := by kernel_rfl
theorem Try.infoS : (Try.prog.info? 37).map (fun i => (i.zero, i.size, i.bytes)) = some (some (.slice none 0 0), 1, 24) := by kernel_rfl
theorem Try.undLs : Try.prog.underlying 65 = some (.slice 37) := by kernel_rfl
theorem bsS (a : Option Addr) (n c : Nat) (w : World) : (Instr.buildSlice 65 1 #[(0, .slice a n c)]).run Try.prog w = .ok (.slice (some ⟨w.heap.size, 0, none⟩) 1 1) (w.alloc (.cells #[.slice a n c] 37)) := by kernel_rfl
theorem bsSE (w : World) : (Instr.buildSlice 65 0 #[]).run Try.prog w = .ok (.slice (some ⟨w.heap.size, 0, none⟩) 0 0) (w.alloc (.cells #[] 37)) := by kernel_rfl
/-- The slice v owns these slices, above B. -/
def OwnS (w : World) (B : Nat) (v : Value) (Vs : List Value) : Prop := w.ownsRow B 37 1 v Vs.length Vs
theorem OwnS.typ {w : World} {B : Nat} {v : Value} {Vs : List Value} (h : OwnS w B v Vs) {k : Nat} (hk : v.ownBlock = some k) : Typ w k 37 ∧ B ≤ k := by
  rcases h.2 with ⟨rfl, _⟩ | ⟨g, cap, cur, rfl, h1, h2, _⟩
  · cases hk
  · have : g = k := by simpa [Value.ownBlock] using hk
    subst this
    exact ⟨⟨_, _, h2⟩, h1⟩
theorem OwnS.below {w w' : World} {B : Nat} {v : Value} {Vs : List Value} (h : OwnS w B v Vs) (hb : Below w.heap.size w w') : OwnS w' B v Vs := by
  refine ⟨h.1, ?_⟩
  rcases h.2 with h1 | ⟨g, cap, cur, rfl, h1, h2, h3⟩
  · exact .inl h1
  · exact .inr ⟨g, cap, cur, rfl, h1, by rw [hb.block g (Array.getElem?_eq_some_iff.1 h2).1]; exact h2, h3⟩
theorem run_appS (w : World) (ty : TypeId) (B : Nat) (v : Value) (Vs : List Value) (hown : OwnS w B v Vs) (g : Nat) (a : Option Addr) (n c : Nat) (hg : Blk w g 37 #[.slice a n c]) (hB : B ≤ w.heap.size) (hb : Vs.length ≤ 1000) :
    ∃ v' w', (Builtin.append_ #[65, 65] ty #[v, .slice (some ⟨g, 0, none⟩) 1 1]).run Try.prog w = .ok v' w' ∧ OwnS w' B v' (Vs ++ [.slice a n c]) ∧ (Grown w w' fun k => v.ownBlock = some k) := by
  obtain ⟨i, hi, hzz⟩ := Option.map_eq_some_iff.1 Try.infoS
  simp only [Prod.mk.injEq] at hzz
  obtain ⟨hz, hsz, hby⟩ := hzz
  obtain ⟨v', w', hr, k1, k2, _, k3⟩ := run_append_own_at (P := Try.prog) w B 65 ty 37 i (.slice none 0 0) 1 24 Try.undLs hi hz hsz hby rfl (by omega) v Vs.length Vs hown ⟨g, 0, none⟩ 1 1 [.slice a n c] rfl (fun j u hu => by
      have hj : j = 0 := by have := (List.getElem?_eq_some_iff.1 hu).1; simpa using this
      subst hj
      rw [Addr.add_mid, Nat.zero_add, hg.cell]
      exact hu)
    (fun u hu => by rw [List.mem_singleton] at hu; subst hu; rfl) (by unfold maxLen; omega) (by omega) hB
  refine ⟨v', w', hr, ?_, Grown.of k2 fun k _ e => e⟩
  unfold OwnS
  rw [List.length_append]
  exact k1
theorem WL.appS1 {ops : Array Oper} {rest : List Oper} {o : Oper} {a : Act} {w : World} {Q : Exit → Act → World → Prop} (hw : Region.wanted o (yielded ops a.tmps) = true) (s x : Operand)
    (ho : o.op = .call { callee := .builtin .append, args := #[s, x], argTypes := #[65, 65] }) (B : Nat) (v : Value) (Vs : List Value) (g : Nat) (pa : Option Addr) (n c : Nat)
    (hs : a.eval s = v) (hx : a.eval x = .slice (some ⟨g, 0, none⟩) 1 1) (hown : OwnS w B v Vs) (hg : Blk w g 37 #[.slice pa n c]) (hB : B ≤ w.heap.size) (hb : Vs.length ≤ 1000)
    (h : ∀ v' w', OwnS w' B v' (Vs ++ [.slice pa n c]) → (Grown w w' fun k => v.ownBlock = some k) → WL Try.prog ops Q rest (a.put o.dst v') w') : WL Try.prog ops Q (o :: rest) a w :=
  ⟨wpList_wanted hw fun K hK => by
    obtain ⟨v', w', hr, k1, k2⟩ := run_appS w o.type B v Vs hown g pa n c hg hB hb
    unfold Oper.wp execOp
    simp only [ho, resolve, invoke, builtin, Sem.run_bind, Sem.run_pure, Result.andThen_ok, List.map_toArray, List.map_cons, List.map_nil, hs, hx, hr]
    exact hK _ _ (h v' w' k1 k2).out⟩
theorem getD_l {Vs : List Value} {u : Value} {i : Nat} (h : i < Vs.length) : (Vs ++ [u]).getD i undef = Vs.getD i undef := by simp [List.getD_eq_getElem?_getD, List.getElem?_append_left h]
theorem getD_r {Vs : List Value} {u : Value} {i : Nat} (h : Vs.length = i) : (Vs ++ [u]).getD i undef = u := by subst h; simp [List.getD_eq_getElem?_getD]
theorem copies_end {w w0 : World} {v : Value} {Vs : List Value} {L : Nat → List Hs} (hs : OwnS w w0.heap.size v Vs) (hl : Vs.length = 6) (ho : ∀ i, i < 6 → OwnH w (Vs.getD i undef) (L i) ∧ ∀ k, (Vs.getD i undef).ownBlock = some k → w0.heap.size ≤ k) : ∃ gl, LsAt w w0.heap.size v gl (fun i => Vs.getD i undef) L := by
  rcases hs.2 with ⟨_, h⟩ | ⟨g, cap, cur, rfl, h1, h2, h3, h4, h5, h6⟩
  · omega
  · refine ⟨g, ⟨cap, by rw [hl]⟩, fun i hi => ?_, ⟨_, _, h2⟩, h1, fun i hi => (ho i hi).1, fun i hi => (ho i hi).2⟩
    have hb : Blk w g 37 cur := h2
    rw [hb.cell, ← Array.getElem?_toList]
    have h7 : (cur.toList.take (Vs.length * 1))[i]? = Vs[i]? := by rw [h6]
    rw [List.getElem?_take, if_pos (by omega)] at h7
    rw [h7, List.getElem?_eq_getElem (by omega)]
    simp [List.getD_eq_getElem?_getD, show i < Vs.length by omega]
set_option maxRecDepth 8000 in
set_option maxHeartbeats 1000000 in
theorem copies_any (B1 : Nat) (v : Value) (gl : Nat) (V : Nat → Value) (L : Nat → List Hs) (w : World) (h1 : LsAt w B1 v gl V L) (hL : ∀ i, i < 6 → (L i).length ≤ 4096) : Calls Try.prog 31 #[v] w fun e w' => ∃ v' gw V', e = .returned v' ∧ LsAt w' w.heap.size v' gw V' L ∧ Below w.heap.size w w' := by
  obtain ⟨c, rfl⟩ := h1.eq
  have H1 := Keep.mk h1
  have HL := Keep.mk hL
  clear h1 hL
  go_enter Try.func31, Try.ntmps31
  refine wp_seq_k fun K1 hK1 => ?_
  refine wp_region_list (WL.out ?_)
  refine WL.val (by kernel_rfl) (.slice none 0 0) (by go_simp) ?_
  simp only [Act.put, List.setIfInBounds_toArray, List.set_cons_zero, List.set_cons_succ]
  refine WL.nil ?_
  refine hK1 _ _ ?_
  refine wp_seq_k fun K2 hK2 => ?_
  refine wp_region_list (WL.out ?_)
  refine WL.bs (by kernel_rfl) 65 0 _ rfl #[] (by simp) _ _ (bsSE w) ?_
  have O1 : Keep (OwnS (w.alloc (.cells #[] 37)) w.heap.size (.slice (some ⟨w.heap.size, 0, none⟩) 0 0) []) := ⟨⟨rfl, .inr ⟨w.heap.size, 0, #[], rfl, Nat.le_refl _, Blk.new w 37 #[], Nat.le_refl _, by decide, rfl, rfl⟩⟩⟩
  have B1 := Keep.mk (below_new w (.cells #[] 37))
  generalize w.alloc (.cells #[] 37) = w1 at *
  obtain ⟨v3, hv3⟩ : ∃ v : Value, v = .slice (some ⟨w.heap.size, 0, none⟩) 0 0 := ⟨_, rfl⟩
  rw [← hv3] at O1 ⊢
  clear hv3
  simp only [Act.put, List.setIfInBounds_toArray, List.set_cons_zero, List.set_cons_succ]
  refine WL.val (by kernel_rfl) (v3) (by go_simp) ?_
  simp only [Act.put, List.setIfInBounds_toArray, List.set_cons_zero, List.set_cons_succ]
  refine WL.nil ?_
  refine hK2 _ _ ?_
  refine wp_seq_k fun K3 hK3 => ?_
  refine wp_seq_k fun K4 hK4 => ?_
  refine wp_region_list (WL.out ?_)
  refine WL.val (by kernel_rfl) (.int .i64 0) (by go_simp) ?_
  simp only [Act.put, List.setIfInBounds_toArray, List.set_cons_zero, List.set_cons_succ]
  refine WL.nil ?_
  refine hK4 _ _ ?_
  refine wp_block ?_
  refine wp_loop (fun ac wr => ∃ (t : Nat) (u3 u6 u7 u8 u9 u10 u11 u12 u13 u14 u15 u16 u17 u18 u19 : Value) (Vs : List Value), ac = { tmps := #[.slice (some ⟨gl, 0, none⟩) 6 c, undef, .slice none 0 0, u3, .int .i64 (t : Int), v3, u6, u7, u8, u9, u10, u11, u12, u13, u14, u15, u16, u17, u18, u19, undef], defers := [] } ∧ t ≤ 6 ∧ Below w.heap.size w wr ∧ OwnS wr w.heap.size u3 Vs ∧ (∀ i, i < t → OwnH wr (Vs.getD i undef) (L i) ∧ ∀ k, (Vs.getD i undef).ownBlock = some k → w.heap.size ≤ k) ∧ Vs.length = t) (fun a _ => 6 - (intOf (a.tmps.getD 4 undef)).toNat) ⟨0, v3, undef, undef, undef, undef, undef, undef, undef, undef, undef, undef, undef, undef, undef, undef, [], rfl, by omega, B1.out, O1.out, (fun i hi => by omega), rfl⟩ ?_
  rintro ac wr ⟨t, u3, u6, u7, u8, u9, u10, u11, u12, u13, u14, u15, u16, u17, u18, u19, Vs, rfl, ht, hB, hS, hO, hLn⟩
  have JB := Keep.mk hB
  have JS := Keep.mk hS
  have JO := Keep.mk hO
  have JL := Keep.mk hLn
  clear hB hS hO hLn
  by_cases htl : t < 6
  · have htl' : (t : Int) < 6 := by omega
    have hwt : IntKind.i64.wrap ((t : Int) + 1) = ((t + 1 : Nat) : Int) := by rw [IntKind.wrap_i64]; omega
    have A1 := Keep.mk (H1.out.below JB.out)
    obtain ⟨pa, pc, e1⟩ := (A1.out.own t htl).sl
    have C1 : wr.cell? ⟨gl, t, none⟩ = some (.slice pa (L t).length pc) := by rw [← e1]; exact A1.out.cell t htl
    have P1 : Keep (OwnH wr (.slice pa (L t).length pc) (L t)) := ⟨by rw [← e1]; exact A1.out.own t htl⟩
    clear e1 A1
    refine wp_seq_k fun K5 hK5 => ?_
    refine wp_seq_k fun K6 hK6 => ?_
    refine wp_region_list (WL.out ?_)
    refine WL.val (by kernel_rfl) (.int .i64 (t : Int)) (by go_simp) ?_
    simp only [Act.put, List.setIfInBounds_toArray, List.set_cons_zero, List.set_cons_succ]
    refine WL.val (by kernel_rfl) (.slice (some ⟨gl, 0, none⟩) 6 c) (by go_simp) ?_
    simp only [Act.put, List.setIfInBounds_toArray, List.set_cons_zero, List.set_cons_succ]
    refine WL.val (by kernel_rfl) (.int .i64 6) (by go_simp) ?_
    simp only [Act.put, List.setIfInBounds_toArray, List.set_cons_zero, List.set_cons_succ]
    refine WL.val (by kernel_rfl) (.bool true) (by go_simp) ?_
    simp only [Act.put, List.setIfInBounds_toArray, List.set_cons_zero, List.set_cons_succ]
    refine WL.nil ?_
    refine hK6 _ _ ?_
    refine wp_cond_true rfl ?_
    refine wp_skip ?_
    refine hK5 _ _ ?_
    refine wp_seq_k fun K7 hK7 => ?_
    refine wp_block ?_
    refine wp_region_list (WL.out ?_)
    refine WL.val (by kernel_rfl) (u3) (by go_simp) ?_
    simp only [Act.put, List.setIfInBounds_toArray, List.set_cons_zero, List.set_cons_succ]
    refine WL.val (by kernel_rfl) (.slice (some ⟨gl, 0, none⟩) 6 c) (by go_simp) ?_
    simp only [Act.put, List.setIfInBounds_toArray, List.set_cons_zero, List.set_cons_succ]
    refine WL.val (by kernel_rfl) (.int .i64 (t : Int)) (by go_simp) ?_
    simp only [Act.put, List.setIfInBounds_toArray, List.set_cons_zero, List.set_cons_succ]
    refine WL.val (by kernel_rfl) (.pointer (some ⟨gl, t, none⟩)) (by go_simp) ?_
    simp only [Act.put, List.setIfInBounds_toArray, List.set_cons_zero, List.set_cons_succ]
    refine WL.val (by kernel_rfl) (.slice pa (L t).length pc) (by go_simp) ?_
    simp only [Act.put, List.setIfInBounds_toArray, List.set_cons_zero, List.set_cons_succ]
    clear C1
    refine WL.appM (by kernel_rfl) (.const (.slice none 0 0)) (.tmp 16) rfl (.slice none 0 0) _ [] (L t) rfl rfl (ownH_nil _) P1.out.row (by have := HL.out t htl; simp; omega) fun v7 w7 h1 h2 h3 => ?_
    have B7 : Keep (Below wr.heap.size wr w7) := ⟨h2.to_below (fun k _ e => by cases e) (Nat.le_refl _)⟩
    rw [List.nil_append] at h1
    obtain ⟨qa, qc, e7⟩ := h1.sl
    subst e7
    have Q7 := Keep.mk h1
    have N7 : Keep (∀ k, (Value.slice qa (L t).length qc).ownBlock = some k → wr.heap.size ≤ k) := ⟨fun k hk => h3.elim (fun e => by rw [hk] at e; cases e) fun ⟨q, e, hq⟩ => by rw [hk] at e; have := Option.some.inj e; omega⟩
    have JS7 := Keep.mk (JS.out.below B7.out)
    clear h1 h2 h3
    simp only [Act.put, List.setIfInBounds_toArray, List.set_cons_zero, List.set_cons_succ]
    refine WL.bs (by kernel_rfl) 65 1 _ rfl #[(0, .slice qa (L t).length qc)] (by simp [Act.eval]) _ _ (bsS _ _ _ w7) ?_
    have HGy := Keep.mk (Blk.new w7 37 #[.slice qa (L t).length qc])
    have B8 := Keep.mk (below_new w7 (.cells #[.slice qa (L t).length qc] 37))
    generalize w7.alloc (.cells #[.slice qa (L t).length qc] 37) = w8 at *
    have JS8 := Keep.mk (JS7.out.below B8.out)
    have Q8 := Keep.mk (Q7.out.below B8.out)
    have B18 := Keep.mk (belowT B7.out B8.out)
    generalize w7.heap.size = gy at *
    simp only [Act.put, List.setIfInBounds_toArray, List.set_cons_zero, List.set_cons_succ]
    refine WL.appS1 (by kernel_rfl) (.tmp 12) (.tmp 18) rfl w.heap.size u3 Vs gy qa (L t).length qc rfl rfl JS8.out HGy.out (Nat.le_trans JB.out.size B18.out.size) (by have := JL.out; omega) fun v9 w9 h1 h2 => ?_
    have K1 := Keep.mk h1
    have KB : Keep (Below w.heap.size w w9) := ⟨(belowT JB.out B18.out).trans (h2.to_below (fun k hk e => by have := (JS8.out.typ e).2; omega) (belowT JB.out B18.out).size)⟩
    have KO : Keep (∀ i, i < t + 1 → OwnH w9 ((Vs ++ [Value.slice qa (L t).length qc]).getD i undef) (L i) ∧ ∀ k, ((Vs ++ [Value.slice qa (L t).length qc]).getD i undef).ownBlock = some k → w.heap.size ≤ k) := ⟨fun i hi => by
      have hne : ∀ (u : Value) (l : List Hs), OwnH w8 u l → OwnH w9 u l := fun u l hu => hu.grown h2 fun k hk e => by have := (hu.typ hk).one (JS8.out.typ e).1; revert this; decide
      rcases Nat.lt_or_eq_of_le (Nat.le_of_lt_succ hi) with h | rfl
      · rw [getD_l (by rw [JL.out]; exact h)]
        exact ⟨hne _ _ ((JO.out i h).1.below B18.out), (JO.out i h).2⟩
      · rw [getD_r JL.out]
        exact ⟨hne _ _ Q8.out, fun k hk => Nat.le_trans JB.out.size (N7.out k hk)⟩⟩
    clear h1 h2
    simp only [Act.put, List.setIfInBounds_toArray, List.set_cons_zero, List.set_cons_succ]
    refine WL.val (by kernel_rfl) (v9) (by go_simp) ?_
    simp only [Act.put, List.setIfInBounds_toArray, List.set_cons_zero, List.set_cons_succ]
    refine WL.nil ?_
    refine hK7 _ _ ?_
    refine wp_region_list (WL.out ?_)
    refine WL.val (by kernel_rfl) (.int .i64 (t : Int)) (by go_simp) ?_
    simp only [Act.put, List.setIfInBounds_toArray, List.set_cons_zero, List.set_cons_succ]
    refine WL.val (by kernel_rfl) (.int .i64 ((t + 1 : Nat) : Int)) (by go_simp) ?_
    simp only [Act.put, List.setIfInBounds_toArray, List.set_cons_zero, List.set_cons_succ]
    refine WL.val (by kernel_rfl) (.int .i64 ((t + 1 : Nat) : Int)) (by go_simp) ?_
    simp only [Act.put, List.setIfInBounds_toArray, List.set_cons_zero, List.set_cons_succ]
    refine WL.nil ?_
    refine ⟨⟨t + 1, v9, .int .i64 (t : Int), .slice (some ⟨gl, 0, none⟩) 6 c, .int .i64 6, .bool true, .int .i64 (t : Int), .int .i64 ((t + 1 : Nat) : Int), u3, .slice (some ⟨gl, 0, none⟩) 6 c, .int .i64 (t : Int), .pointer (some ⟨gl, t, none⟩), .slice pa (L t).length pc, .slice qa (L t).length qc, .slice (some ⟨gy, 0, none⟩) 1 1, v9, Vs ++ [.slice qa (L t).length qc], rfl, by omega, KB.out, K1.out, KO.out, by rw [List.length_append, JL.out]; rfl⟩, ?_⟩
    simp only [intOf]; show 6 - (((t + 1 : Nat) : Int)).toNat < 6 - ((t : Int)).toNat; omega
  · have htl' : ¬ (t : Int) < 6 := by omega
    have hte : t = 6 := by omega
    refine wp_seq_k fun K8 hK8 => ?_
    refine wp_seq_k fun K9 hK9 => ?_
    refine wp_region_list (WL.out ?_)
    refine WL.val (by kernel_rfl) (.int .i64 (t : Int)) (by go_simp) ?_
    simp only [Act.put, List.setIfInBounds_toArray, List.set_cons_zero, List.set_cons_succ]
    refine WL.val (by kernel_rfl) (.slice (some ⟨gl, 0, none⟩) 6 c) (by go_simp) ?_
    simp only [Act.put, List.setIfInBounds_toArray, List.set_cons_zero, List.set_cons_succ]
    refine WL.val (by kernel_rfl) (.int .i64 6) (by go_simp) ?_
    simp only [Act.put, List.setIfInBounds_toArray, List.set_cons_zero, List.set_cons_succ]
    refine WL.val (by kernel_rfl) (.bool false) (by go_simp) ?_
    simp only [Act.put, List.setIfInBounds_toArray, List.set_cons_zero, List.set_cons_succ]
    refine WL.nil ?_
    refine hK9 _ _ ?_
    refine wp_cond_false rfl ?_
    refine wp_exit ?_
    refine hK3 _ _ ?_
    refine wp_seq_k fun K10 hK10 => ?_
    refine wp_region_list (WL.out ?_)
    refine WL.val (by kernel_rfl) (u3) (by go_simp) ?_
    simp only [Act.put, List.setIfInBounds_toArray, List.set_cons_zero, List.set_cons_succ]
    refine WL.val (by kernel_rfl) (u3) (by go_simp) ?_
    simp only [Act.put, List.setIfInBounds_toArray, List.set_cons_zero, List.set_cons_succ]
    refine WL.nil ?_
    refine hK10 _ _ ?_
    refine wp_ret ?_
    go_ret
    obtain ⟨gw, h⟩ := copies_end (L := L) JS.out (by rw [JL.out, hte]) (fun i hi => JO.out i (by omega))
    exact ⟨_, gw, _, rfl, h, JB.out⟩
end Go.Proofs.Ytogmdfhicbmplaa
namespace Go.Proofs.Ytogmdfhicbmplaa
open Go.RowKit
set_option linter.unusedSimpArgs false
set_option linter.unusedVariables false

/-! ### Marks. -/
def mkH (i : Nat) : Hs := Hs.mk' (fun j => if j = 1 then (((i + 1) % 256 : Nat) : Int) else 0) fun j _ => by
  by_cases h : j = 1
  · simp only [h, if_true]; omega
  · simp only [h, if_false]; omega
theorem built1 (x : Int) : Try.prog.built 36 [(1, .int .u8 x)] = some (bytesA 32 (upd (fun _ => 0) 1 x)) := by kernel_rfl
theorem mark_arr (i : Nat) (hi : i < 6) : bytesA 32 (upd (fun _ => 0) 1 (IntKind.u8.wrap ((i + 1 : Nat) : Int))) = bytesA 32 (mkH i).f := by
  refine bytesA_congr fun j hj => ?_
  unfold mkH
  rw [Hs.mk'_f _ _ j hj]
  unfold upd
  by_cases h : j = 1
  · rw [if_pos h, if_pos h]
    have : i = 0 ∨ i = 1 ∨ i = 2 ∨ i = 3 ∨ i = 4 ∨ i = 5 := by omega
    rcases this with rfl | rfl | rfl | rfl | rfl | rfl <;> decide
  · rw [if_neg h, if_neg h]
theorem builtM (i : Nat) (hi : i < 6) : Try.prog.built 36 [(1, .int .u8 (IntKind.u8.wrap ((i + 1 : Nat) : Int)))] = some (bytesA 32 (mkH i).f) := by rw [built1, mark_arr i hi]
theorem built238 : Try.prog.built 36 [(1, .int .u8 238)] = some (bytesA 32 (upd (fun _ => 0) 1 238)) := built1 238
/-- The lists when all ahead of list t are marked, and k of list t. -/
def LA (L : Nat → List Hs) (t k j : Nat) : List Hs := if j < t then List.replicate (L j).length (mkH j) else if j = t then List.replicate k (mkH t) ++ (L t).drop k else L j
theorem LA_len (L : Nat → List Hs) (t k j : Nat) (hk : k ≤ (L t).length) : (LA L t k j).length = (L j).length := by
  unfold LA
  split
  · simp
  · split
    · rename_i h1 h2; subst h2; simp; omega
    · rfl
theorem LA_next (L : Nat → List Hs) (t j : Nat) : LA L t (L t).length j = LA L (t + 1) 0 j := by
  unfold LA
  by_cases h1 : j < t
  · rw [if_pos h1, if_pos (by omega)]
  · rw [if_neg h1]
    by_cases h2 : j = t
    · subst h2; rw [if_pos rfl, if_pos (by omega), List.drop_length, List.append_nil]
    · rw [if_neg h2, if_neg (by omega)]
      by_cases h3 : j = t + 1
      · subst h3; rw [if_pos rfl]; simp
      · rw [if_neg h3]
theorem LA_zero (L : Nat → List Hs) (j : Nat) : LA L 0 0 j = L j := by
  unfold LA
  rw [if_neg (by omega)]
  by_cases h : j = 0
  · subst h; simp
  · rw [if_neg h]
theorem LA_at (L : Nat → List Hs) (t k : Nat) : LA L t k t = List.replicate k (mkH t) ++ (L t).drop k := by unfold LA; rw [if_neg (by omega), if_pos rfl]
theorem LA_set (L : Nat → List Hs) (t k : Nat) (hk : k < (L t).length) : (LA L t k t).set k (mkH t) = LA L t (k + 1) t := by
  rw [LA_at, LA_at, List.set_append_right _ _ (by simp), List.length_replicate, Nat.sub_self, List.drop_eq_getElem_cons hk, List.set_cons_zero, List.replicate_succ']
  simp
theorem LA_other (L : Nat → List Hs) (t k k' j : Nat) (h : j ≠ t) : LA L t k j = LA L t k' j := by
  unfold LA
  by_cases h1 : j < t
  · rw [if_pos h1, if_pos h1]
  · rw [if_neg h1, if_neg h1, if_neg h, if_neg h]
theorem LA_done (L : Nat → List Hs) (j : Nat) (hj : j < 6) : LA L 6 0 j = List.replicate (L j).length (mkH j) := by unfold LA; rw [if_pos hj]
theorem LsAt.congr {w : World} {B : Nat} {v : Value} {gl : Nat} {V : Nat → Value} {L M : Nat → List Hs} (h : LsAt w B v gl V L) (e : ∀ i, i < 6 → L i = M i) : LsAt w B v gl V M :=
  ⟨h.eq, h.cell, h.typ, h.lo, fun i hi => e i hi ▸ h.own i hi, h.new⟩
theorem LsAt.setOne {w w' : World} {B : Nat} {v : Value} {gl : Nat} {V : Nat → Value} {L M : Nat → List Hs} {t : Nat} (h : LsAt w B v gl V L) (ap : LsAp V) (ht : t < 6) (hg : Grown w w' fun k => (V t).ownBlock = some k) (ho : OwnH w' (V t) (M t)) (hm : ∀ j, j < 6 → j ≠ t → M j = L j) : LsAt w' B v gl V M := by
  refine ⟨h.eq, fun i hi => cell_grown (h.cell i hi) hg (fun e => h.ne t ht gl e rfl), hg.typ h.typ (fun e => h.ne t ht gl e rfl), h.lo, fun i hi => ?_, h.new⟩
  by_cases e : i = t
  · subst e; exact ho
  · rw [hm i hi e]
    exact (h.own i hi).grown hg fun k hk e2 => ap i t hi ht e k hk e2
/-! ### An append that leaves alone what stood there. -/
theorem keep_pre {w : World} {g n c m : Nat} {l : List Hs} {cur : Array Value} {cs : Array Value} (h : OwnH w (.slice (some ⟨g, 0, none⟩) n c) l) (hb : Blk w g 36 cur) (hn : l.length ≤ m) (hm : m + 1 ≤ c) (hcs : cs.size = 32) :
    OwnH (w.setRow g (cur.toList.take (m * 32) ++ cs.toList ++ cur.toList.drop (m * 32 + cs.size)).toArray) (.slice (some ⟨g, 0, none⟩) n c) l := by
  obtain ⟨cur2, hb2, h1, h2, h3, h4, h5⟩ := ownH_blk h
  obtain rfl : cur = cur2 := by unfold Blk at hb hb2; rw [hb] at hb2; simpa using hb2
  have hl : cur.toList.length = cur.size := Array.length_toList
  refine ownH_mk (hb.setRow _) h1 h2 h3 ?_ ?_
  · simp only [List.size_toArray, List.length_append, List.length_take, List.length_drop, Array.length_toList, hcs]
    omega
  · rw [List.append_assoc, List.take_append_of_le_length (by rw [List.length_take]; omega), List.take_take, Nat.min_eq_left (by omega), h5]
theorem run_appX2 (w : World) (ty : TypeId) (a : Option Addr) (n c : Nat) (hown : OwnX w (.slice a n c) n) (gy : Nat) (cs : Array Value) (hg : Blk w gy 36 cs) (hcs : cs.size = 32) (h1 : cs.all (·.oneCell') = true) (hb : n ≤ 1000000000000) :
    ∃ v' w', (Builtin.append_ #[37, 37] ty #[.slice a n c, .slice (some ⟨gy, 0, none⟩) 1 1]).run Try.prog w = .ok v' w' ∧ OwnX w' v' (n + 1) ∧
      ((v' = .slice a (n + 1) c ∧ n + 1 ≤ c ∧ ∃ g cur, a = some ⟨g, 0, none⟩ ∧ Blk w g 36 cur ∧ w' = w.setRow g (cur.toList.take (n * 32) ++ cs.toList ++ cur.toList.drop (n * 32 + cs.size)).toArray) ∨ (Below w.heap.size w w' ∧ ∀ k, v'.ownBlock = some k → w.heap.size ≤ k)) := by
  obtain ⟨i, hi, hzz⟩ := Option.map_eq_some_iff.1 Try.infoH
  simp only [Prod.mk.injEq] at hzz
  obtain ⟨hz, hsz, hby⟩ := hzz
  have hnews : ∀ j u, cs.toList[j]? = some u → w.cell? ((⟨gy, 0, none⟩ : Addr).add j) = some u := fun j u hu => by
    rw [Addr.add_mid, Nat.zero_add, hg.cell, ← Array.getElem?_toList]; exact hu
  have hl : cs.toList.length = 1 * i.size := by rw [Array.length_toList, hcs, hsz]
  have h1' : ∀ u ∈ cs.toList, u.oneCell' = true := fun u hu => (Array.all_eq_true_iff_forall_mem.1 h1) u (by simpa using hu)
  have hzs : (Value.agg (bytesA 32 fun _ => 0)).cells.size = 32 := by show (bytesA 32 fun _ => 0).size = 32; exact bytesA_size _ _
  obtain ⟨xs, hown⟩ := hown
  rcases hown.2 with ⟨e0, rfl⟩ | ⟨g, cap, cur, e, _, hcur, hnc, hcm, hcs2, htk⟩
  · injection e0 with e1 e2 e3
    subst e1 e3
    obtain ⟨v', w', hr, k1, k2, _, k3⟩ := run_append_own_at (P := Try.prog) w 0 37 ty 36 i (.agg (bytesA 32 fun _ => 0)) 32 32 Try.underlying37 hi hz hsz hby hzs (by omega) (.slice none 0 0) 0 xs hown ⟨gy, 0, none⟩ 1 1 cs.toList (by rw [hl, hsz]) hnews h1' (by unfold maxLen; omega) (by omega) (Nat.zero_le _)
    refine ⟨v', w', hr, ⟨_, k1⟩, .inr ⟨(Below.refl _ _).grown k2 (Nat.le_refl _) (fun k hk => by cases hk), fun k hk => ?_⟩⟩
    rcases k3 with h | h
    · rw [hk] at h; cases h
    · rw [hk] at h; have := Option.some.inj h; omega
  · injection e with e1 e2 e3
    subst e1 e3
    by_cases hroom : n + 1 ≤ c
    · have hr := run_append_room (P := Try.prog) w 37 ty 36 i Try.underlying37 hi g n c cur hcur ⟨gy, 0, none⟩ 1 1 cs.toList hl hnews h1' hroom (by rw [hsz, Array.length_toList, hcs, hcs2]; omega)
      rw [hsz, Array.length_toList] at hr
      refine ⟨_, _, hr, ?_, .inl ⟨rfl, hroom, g, cur, rfl, hcur, rfl⟩⟩
      refine ownX_mk ((show Blk w g 36 cur from hcur).setRow _) hroom hcm ?_
      simp only [List.size_toArray, List.length_append, List.length_take, List.length_drop, Array.length_toList, hcs]
      omega
    · have hr := run_append_grow (P := Try.prog) w 37 ty 36 i (.agg (bytesA 32 fun _ => 0)) Try.underlying37 hi hz ⟨g, 0, none⟩ n c xs (by rw [hown.1, hsz]) (fun j v hv => by
          have hb : Blk w g 36 cur := hcur
          rw [Addr.add_mid, Nat.zero_add, hb.cell, ← Array.getElem?_toList]
          rw [← htk, List.getElem?_take] at hv
          split at hv
          · exact hv
          · cases hv) ⟨gy, 0, none⟩ 1 1 cs.toList hl hnews (by omega) (by omega) (growslice_fits (by omega) (by rw [hby]; omega))
      have q1 := grownCap_ge w (n + 1) c 36
      have q2 := grownCap_le_maxLen w (n + 1) c 36 (by unfold maxLen; omega)
      refine ⟨_, _, hr, ?_, .inr ⟨((Below.refl _ _).drew).trans (below_new w.drew _), fun k hk => ?_⟩⟩
      · refine ownX_mk (Blk.new _ _ _) q1 q2 ?_
        rw [Array.size_append, Array.size_append, List.size_toArray, List.size_toArray, hown.1, Array.length_toList, hcs, size_zeroCells, hzs]
        generalize grownCap w (n + 1) c 36 = q at *
        omega
      · have h : w.heap.size = k := by simpa [Value.ownBlock] using hk
        omega
theorem WL.appX2 {ops : Array Oper} {rest : List Oper} {o : Oper} {a : Act} {w : World} {Q : Exit → Act → World → Prop} (hw : Region.wanted o (yielded ops a.tmps) = true) (s x : Operand)
    (ho : o.op = .call { callee := .builtin .append, args := #[s, x], argTypes := #[37, 37] }) (pa : Option Addr) (n c g : Nat) (cs : Array Value)
    (hs : a.eval s = .slice pa n c) (hx : a.eval x = .slice (some ⟨g, 0, none⟩) 1 1) (hown : OwnX w (.slice pa n c) n) (hg : Blk w g 36 cs) (hcs : cs.size = 32) (h1 : cs.all (·.oneCell') = true) (hb : n ≤ 1000000000000)
    (h : ∀ v' w', OwnX w' v' (n + 1) → ((v' = .slice pa (n + 1) c ∧ n + 1 ≤ c ∧ ∃ g cur, pa = some ⟨g, 0, none⟩ ∧ Blk w g 36 cur ∧ w' = w.setRow g (cur.toList.take (n * 32) ++ cs.toList ++ cur.toList.drop (n * 32 + cs.size)).toArray) ∨ (Below w.heap.size w w' ∧ ∀ k, v'.ownBlock = some k → w.heap.size ≤ k)) → WL Try.prog ops Q rest (a.put o.dst v') w') : WL Try.prog ops Q (o :: rest) a w :=
  ⟨wpList_wanted hw fun K hK => by
    obtain ⟨v', w', hr, k1, k2⟩ := run_appX2 w o.type pa n c hown g cs hg hcs h1 hb
    unfold Oper.wp execOp
    simp only [ho, resolve, invoke, builtin, Sem.run_bind, Sem.run_pure, Result.andThen_ok, List.map_toArray, List.map_cons, List.map_nil, hs, hx, hr]
    exact hK _ _ (h v' w' k1 k2).out⟩
/-- Where a grown list lies: where it lay, or in a block above B. -/
def Grw (B : Nat) (pa : Option Addr) (n c : Nat) (u : Value) (j : Nat) : Prop := u = .slice pa (n + j) c ∨ ∀ k, u.ownBlock = some k → B ≤ k
/-- One more behind list t, all lists stay. -/
theorem apart_app {w w' : World} {B B2 : Nat} {v : Value} {gl : Nat} {V : Nat → Value} {L : Nat → List Hs} {t j : Nat} {pa qa : Option Addr} {c qc : Nat} {u' : Value} {cs : Array Value} (h : LsAt w B v gl V L) (ap : LsAp V) (ht : t < 6) (hV : V t = .slice pa (L t).length c) (hB : B2 ≤ w.heap.size) (hlt : gl < B2 ∧ ∀ i, i < 6 → ∀ k, (V i).ownBlock = some k → k < B2) (hu : Grw B2 pa (L t).length c (.slice qa ((L t).length + j) qc) j) (hcs : cs.size = 32)
    (hown : OwnX w' u' ((L t).length + j + 1)) (hx : OwnX w (.slice qa ((L t).length + j) qc) ((L t).length + j))
    (hr : (u' = .slice qa ((L t).length + j + 1) qc ∧ (L t).length + j + 1 ≤ qc ∧ ∃ g cur, qa = some ⟨g, 0, none⟩ ∧ Blk w g 36 cur ∧ w' = w.setRow g (cur.toList.take (((L t).length + j) * 32) ++ cs.toList ++ cur.toList.drop (((L t).length + j) * 32 + cs.size)).toArray) ∨ (Below w.heap.size w w' ∧ ∀ k, u'.ownBlock = some k → w.heap.size ≤ k)) :
    LsAt w' B v gl V L ∧ Grw B2 pa (L t).length c u' (j + 1) ∧ Grown w w' (fun k => B2 ≤ k ∨ (V t).ownBlock = some k) := by
  rcases hr with ⟨rfl, hroom, g, cur, rfl, hcb, rfl⟩ | ⟨hb, hk⟩
  · rcases hu with e | hk
    · injection e with e1 e2 e3
      subst e1 e3
      have hO := h.own t ht
      rw [hV] at hO
      have hg : Grown w (w.setRow g (cur.toList.take (((L t).length + j) * 32) ++ cs.toList ++ cur.toList.drop (((L t).length + j) * 32 + cs.size)).toArray) fun k => (V t).ownBlock = some k := Grown.setRow w g _ fun _ => by rw [hV]; rfl
      refine ⟨h.setOne ap ht hg (by rw [hV]; exact keep_pre hO hcb (by omega) hroom hcs) (fun _ _ _ => rfl), .inl (by rw [Nat.add_assoc]), hg.mono fun k _ e => .inr e⟩
    · have hgB : B2 ≤ g := hk g rfl
      have hg : Grown w (w.setRow g (cur.toList.take (((L t).length + j) * 32) ++ cs.toList ++ cur.toList.drop (((L t).length + j) * 32 + cs.size)).toArray) fun k => B2 ≤ k := Grown.setRow w g _ fun _ => hgB
      refine ⟨h.grown hg (by have := hlt.1; omega) (fun i hi k hk2 e => by have := hlt.2 i hi k hk2; omega), .inr fun k hk2 => ?_, hg.mono fun k _ e => .inl e⟩
      have e : g = k := by simpa [Value.ownBlock] using hk2
      omega
  · exact ⟨h.below hb, .inr fun k hk2 => Nat.le_trans hB (hk k hk2), Grown.below hb⟩
end Go.Proofs.Ytogmdfhicbmplaa
namespace Go.Proofs.Ytogmdfhicbmplaa
open Go.RowKit
set_option linter.unusedSimpArgs false
set_option linter.unusedVariables false

theorem Try.in34 (w : World) (vs : Array Value) : (callFunc 34 vs).run Try.prog w = .ok (.enter 34 vs) w := by kernel_rfl
set_option maxRecDepth 8000 in
set_option maxHeartbeats 4000000 in
theorem apart_any (B : Nat) (v : Value) (gl : Nat) (V : Nat → Value) (L : Nat → List Hs) (w : World) (h1 : LsAt w B v gl V L) (hA : LsAp V) (hL : ∀ i, i < 6 → (L i).length ≤ 4096) : Calls Try.prog 34 #[v] w fun e w' => e = .returned (.bool true) ∧ Grown w w' fun k => ∃ i, i < 6 ∧ (V i).ownBlock = some k := by
  obtain ⟨c, hv⟩ := h1.eq
  have H1 := Keep.mk h1
  have HA := Keep.mk hA
  have HL := Keep.mk hL
  clear h1 hA hL
  rw [hv]
  clear hv
  go_enter Try.func34, Try.ntmps34
  refine wp_seq_k fun K1 hK1 => ?_
  refine wp_region_list (WL.out ?_)
  refine WL.val (by kernel_rfl) (.bool false) (by go_simp) ?_
  simp only [Act.put, List.setIfInBounds_toArray, List.set_cons_zero, List.set_cons_succ]
  refine WL.nil ?_
  refine hK1 _ _ ?_
  refine wp_seq_k fun K2 hK2 => ?_
  refine wp_seq_k fun K3 hK3 => ?_
  refine wp_region_list (WL.out ?_)
  refine WL.val (by kernel_rfl) (.int .i64 0) (by go_simp) ?_
  simp only [Act.put, List.setIfInBounds_toArray, List.set_cons_zero, List.set_cons_succ]
  refine WL.nil ?_
  refine hK3 _ _ ?_
  refine wp_block ?_
  refine wp_loop (fun ac wr => ∃ (t : Nat) (u4 u10 u11 u12 u13 u14 u15 u16 u17 u18 u19 u20 u21 u22 u23 u24 u25 u26 u27 u28 u29 u30 u31 u32 u33 u34 : Value), ac = { tmps := #[.slice (some ⟨gl, 0, none⟩) 6 c, undef, .bool false, .int .i64 (t : Int), u4, undef, undef, undef, undef, undef, u10, u11, u12, u13, u14, u15, u16, u17, u18, u19, u20, u21, u22, u23, u24, u25, u26, u27, u28, u29, u30, u31, u32, u33, u34, undef, undef, undef, undef, undef, undef, undef, undef, undef, undef, undef, undef, undef, undef, undef, undef, undef, undef, undef, undef, undef, undef, undef, undef, undef, undef, undef, undef, undef, undef, undef, undef, undef, undef, undef, undef, undef, undef, undef, undef, undef, undef, undef, undef, undef], defers := [] } ∧ t ≤ 6 ∧ LsAt wr B v gl V (LA L t 0) ∧ (Grown w wr fun k => ∃ i, i < 6 ∧ (V i).ownBlock = some k)) (fun a _ => 6 - (intOf (a.tmps.getD 3 undef)).toNat) ⟨0, undef, undef, undef, undef, undef, undef, undef, undef, undef, undef, undef, undef, undef, undef, undef, undef, undef, undef, undef, undef, undef, undef, undef, undef, undef, undef, rfl, by omega, H1.out.congr (fun i _ => (LA_zero L i).symm), Grown.refl _ _⟩ ?_
  rintro ac wr ⟨t, u4, u10, u11, u12, u13, u14, u15, u16, u17, u18, u19, u20, u21, u22, u23, u24, u25, u26, u27, u28, u29, u30, u31, u32, u33, u34, rfl, ht, h1, hG⟩
  have J1 := Keep.mk h1
  have JG := Keep.mk hG
  clear h1 hG
  by_cases htl : t < 6
  · have htl' : (t : Int) < 6 := by omega
    have hwt : IntKind.i64.wrap ((t : Int) + 1) = ((t + 1 : Nat) : Int) := by rw [IntKind.wrap_i64]; omega
    obtain ⟨pa, pc, eV⟩ := (J1.out.own t htl).sl
    have EV : Keep (V t = .slice pa (L t).length pc) := ⟨by rw [eV, LA_len L t 0 t (Nat.zero_le _)]⟩
    have HLt := Keep.mk (HL.out t htl)
    clear eV
    refine wp_seq_k fun K4 hK4 => ?_
    refine wp_seq_k fun K5 hK5 => ?_
    refine wp_region_list (WL.out ?_)
    refine WL.val (by kernel_rfl) (.int .i64 (t : Int)) (by go_simp) ?_
    simp only [Act.put, List.setIfInBounds_toArray, List.set_cons_zero, List.set_cons_succ]
    refine WL.val (by kernel_rfl) (.slice (some ⟨gl, 0, none⟩) 6 c) (by go_simp) ?_
    simp only [Act.put, List.setIfInBounds_toArray, List.set_cons_zero, List.set_cons_succ]
    refine WL.val (by kernel_rfl) (.int .i64 6) (by go_simp) ?_
    simp only [Act.put, List.setIfInBounds_toArray, List.set_cons_zero, List.set_cons_succ]
    refine WL.val (by kernel_rfl) (.bool true) (by go_simp) ?_
    simp only [Act.put, List.setIfInBounds_toArray, List.set_cons_zero, List.set_cons_succ]
    refine WL.nil ?_
    refine hK5 _ _ ?_
    refine wp_cond_true rfl ?_
    refine wp_skip ?_
    refine hK4 _ _ ?_
    refine wp_seq_k fun K6 hK6 => ?_
    refine wp_block ?_
    refine wp_seq_k fun K7 hK7 => ?_
    refine wp_region_list (WL.out ?_)
    refine WL.val (by kernel_rfl) (.int .i64 0) (by go_simp) ?_
    simp only [Act.put, List.setIfInBounds_toArray, List.set_cons_zero, List.set_cons_succ]
    refine WL.nil ?_
    refine hK7 _ _ ?_
    refine wp_block ?_
    refine wp_loop (fun ac wi => ∃ (k : Nat) (z16 z17 z18 z19 z20 z21 z22 z23 z24 z25 z26 z27 z28 z29 z30 z31 z32 z33 z34 : Value), ac = { tmps := #[.slice (some ⟨gl, 0, none⟩) 6 c, undef, .bool false, .int .i64 (t : Int), .int .i64 (k : Int), undef, undef, undef, undef, undef, .int .i64 (t : Int), .slice (some ⟨gl, 0, none⟩) 6 c, .int .i64 6, .bool true, u14, u15, z16, z17, z18, z19, z20, z21, z22, z23, z24, z25, z26, z27, z28, z29, z30, z31, z32, z33, z34, undef, undef, undef, undef, undef, undef, undef, undef, undef, undef, undef, undef, undef, undef, undef, undef, undef, undef, undef, undef, undef, undef, undef, undef, undef, undef, undef, undef, undef, undef, undef, undef, undef, undef, undef, undef, undef, undef, undef, undef, undef, undef, undef, undef, undef], defers := [] } ∧ k ≤ (L t).length ∧ LsAt wi B v gl V (LA L t k) ∧ (Grown w wi fun k => ∃ i, i < 6 ∧ (V i).ownBlock = some k)) (fun a _ => (L t).length - (intOf (a.tmps.getD 4 undef)).toNat) ⟨0, u16, u17, u18, u19, u20, u21, u22, u23, u24, u25, u26, u27, u28, u29, u30, u31, u32, u33, u34, rfl, by omega, J1.out, JG.out⟩ ?_
    rintro ac wi ⟨k, z16, z17, z18, z19, z20, z21, z22, z23, z24, z25, z26, z27, z28, z29, z30, z31, z32, z33, z34, rfl, hk, h1, hG⟩
    have K1 := Keep.mk h1
    have KG := Keep.mk hG
    clear h1 hG
    by_cases hkl : k < (L t).length
    · have hkl' : (k : Int) < ((L t).length : Int) := by omega
      have hwk : IntKind.i64.wrap ((k : Int) + 1) = ((k + 1 : Nat) : Int) := by rw [IntKind.wrap_i64]; have := HLt.out; omega
      have hO : OwnH wi (.slice pa (L t).length pc) (LA L t k t) := by rw [← EV.out]; exact K1.out.own t htl
      obtain ⟨g, cap, cur, e, hcb, _⟩ : ∃ g cap cur, pa = some ⟨g, 0, none⟩ ∧ Blk wi g 36 cur ∧ cap = 0 := by
        rcases hO.form with ⟨e, h0⟩ | ⟨g, cap, cur, e, hb, _⟩
        · have := congrArg List.length h0; rw [LA_len L t k t (by omega), List.length_nil] at this; omega
        · injection e with e1; exact ⟨g, 0, cur, e1, hb, rfl⟩
      subst e
      have HO := Keep.mk hO
      have HCb := Keep.mk hcb
      obtain ⟨cc, hcc⟩ : ∃ a : Array Value, Keep (a = bytesA 32 (mkH t).f) := ⟨_, ⟨rfl⟩⟩
      clear hO hcb
      refine wp_seq_k fun K8 hK8 => ?_
      refine wp_seq_k fun K9 hK9 => ?_
      refine wp_region_list (WL.out ?_)
      refine WL.val (by kernel_rfl) (.int .i64 (k : Int)) (by go_simp) ?_
      simp only [Act.put, List.setIfInBounds_toArray, List.set_cons_zero, List.set_cons_succ]
      refine WL.val (by kernel_rfl) (.slice (some ⟨gl, 0, none⟩) 6 c) (by go_simp) ?_
      simp only [Act.put, List.setIfInBounds_toArray, List.set_cons_zero, List.set_cons_succ]
      refine WL.val (by kernel_rfl) (.int .i64 (t : Int)) (by go_simp) ?_
      simp only [Act.put, List.setIfInBounds_toArray, List.set_cons_zero, List.set_cons_succ]
      refine WL.val (by kernel_rfl) (.pointer (some ⟨gl, t, none⟩)) (by go_simp) ?_
      simp only [Act.put, List.setIfInBounds_toArray, List.set_cons_zero, List.set_cons_succ]
      have cV : wi.cell? ⟨gl, t, none⟩ = some (.slice (some ⟨g, 0, none⟩) (L t).length pc) := by rw [← EV.out]; exact K1.out.cell t htl
      refine WL.val (by kernel_rfl) (.slice (some ⟨g, 0, none⟩) (L t).length pc) (by go_simp) ?_
      clear cV
      simp only [Act.put, List.setIfInBounds_toArray, List.set_cons_zero, List.set_cons_succ]
      refine WL.val (by kernel_rfl) (.int .i64 ((L t).length : Int)) (by go_simp) ?_
      simp only [Act.put, List.setIfInBounds_toArray, List.set_cons_zero, List.set_cons_succ]
      refine WL.val (by kernel_rfl) (.bool true) (by go_simp) ?_
      simp only [Act.put, List.setIfInBounds_toArray, List.set_cons_zero, List.set_cons_succ]
      refine WL.nil ?_
      refine hK9 _ _ ?_
      refine wp_cond_true rfl ?_
      refine wp_skip ?_
      refine hK8 _ _ ?_
      refine wp_seq_k fun K10 hK10 => ?_
      refine wp_block ?_
      refine wp_region_list (WL.out ?_)
      refine WL.val (by kernel_rfl) (.slice (some ⟨gl, 0, none⟩) 6 c) (by go_simp) ?_
      simp only [Act.put, List.setIfInBounds_toArray, List.set_cons_zero, List.set_cons_succ]
      refine WL.val (by kernel_rfl) (.int .i64 (t : Int)) (by go_simp) ?_
      simp only [Act.put, List.setIfInBounds_toArray, List.set_cons_zero, List.set_cons_succ]
      refine WL.val (by kernel_rfl) (.pointer (some ⟨gl, t, none⟩)) (by go_simp) ?_
      simp only [Act.put, List.setIfInBounds_toArray, List.set_cons_zero, List.set_cons_succ]
      have cV : wi.cell? ⟨gl, t, none⟩ = some (.slice (some ⟨g, 0, none⟩) (L t).length pc) := by rw [← EV.out]; exact K1.out.cell t htl
      refine WL.val (by kernel_rfl) (.slice (some ⟨g, 0, none⟩) (L t).length pc) (by go_simp) ?_
      clear cV
      simp only [Act.put, List.setIfInBounds_toArray, List.set_cons_zero, List.set_cons_succ]
      refine WL.val (by kernel_rfl) (.int .i64 (k : Int)) (by go_simp) ?_
      simp only [Act.put, List.setIfInBounds_toArray, List.set_cons_zero, List.set_cons_succ]
      refine WL.val (by kernel_rfl) (.int .i64 (t : Int)) (by go_simp) ?_
      simp only [Act.put, List.setIfInBounds_toArray, List.set_cons_zero, List.set_cons_succ]
      refine WL.val (by kernel_rfl) (.int .i64 ((t + 1 : Nat) : Int)) (by go_simp) ?_
      simp only [Act.put, List.setIfInBounds_toArray, List.set_cons_zero, List.set_cons_succ]
      refine WL.val (by kernel_rfl) (.int .u8 (IntKind.u8.wrap ((t + 1 : Nat) : Int))) (by go_simp) ?_
      simp only [Act.put, List.setIfInBounds_toArray, List.set_cons_zero, List.set_cons_succ]
      refine WL.bld (by kernel_rfl) 36 _ rfl [(1, .int .u8 (IntKind.u8.wrap ((t + 1 : Nat) : Int)))] (by simp [Act.eval]) cc (by rw [hcc.out]; exact builtM t htl) ?_
      simp only [Act.put, List.setIfInBounds_toArray, List.set_cons_zero, List.set_cons_succ]
      refine WL.val (by kernel_rfl) (.pointer (some ⟨g, k * 32, none⟩)) (by go_simp) ?_
      simp only [Act.put, List.setIfInBounds_toArray, List.set_cons_zero, List.set_cons_succ]
      obtain ⟨cur', hcb', -, hcc2, -, hcs, -⟩ := ownH_blk HO.out
      have hfit : k * 32 + cc.size ≤ cur'.size := by rw [hcc.out, bytesA_size, hcs]; rw [LA_len L t k t (by omega)] at hcc2; omega
      refine WL.part (by kernel_rfl) 36 (.tmp 34) (.tmp 33) rfl g (k * 32) cc rfl rfl 36 cur' hcb' (by rw [hcc.out]; exact Try.size36B _) hfit (by rw [hcc.out]; exact bytesA_one _ _) _ rfl ?_
      have hgr : Grown wi (wi.setRow g (cur'.toList.take (k * 32) ++ cc.toList ++ cur'.toList.drop (k * 32 + cc.size)).toArray) fun q => (V t).ownBlock = some q := Grown.setRow wi g _ fun _ => by rw [EV.out]; rfl
      have N1 : Keep (LsAt (wi.setRow g (cur'.toList.take (k * 32) ++ cc.toList ++ cur'.toList.drop (k * 32 + cc.size)).toArray) B v gl V (LA L t (k + 1))) := ⟨K1.out.setOne HA.out htl hgr (by rw [EV.out, ← LA_set L t k hkl, hcc.out]; exact own_set (h := mkH t) HO.out hcb' (by rw [LA_len L t k t (by omega)]; exact hkl)) (fun j hj hne => LA_other L t _ _ j hne)⟩
      have NG : Keep (Grown w (wi.setRow g (cur'.toList.take (k * 32) ++ cc.toList ++ cur'.toList.drop (k * 32 + cc.size)).toArray) fun k => ∃ i, i < 6 ∧ (V i).ownBlock = some k) := ⟨KG.out.next hgr fun i _ e => ⟨t, htl, e⟩⟩
      clear hcb' hcc2 hcs hfit hgr
      generalize wi.setRow g (cur'.toList.take (k * 32) ++ cc.toList ++ cur'.toList.drop (k * 32 + cc.size)).toArray = w4 at *
      simp only [Act.put]
      refine WL.nil ?_
      refine hK10 _ _ ?_
      refine wp_region_list (WL.out ?_)
      refine WL.val (by kernel_rfl) (.int .i64 (k : Int)) (by go_simp) ?_
      simp only [Act.put, List.setIfInBounds_toArray, List.set_cons_zero, List.set_cons_succ]
      refine WL.val (by kernel_rfl) (.int .i64 ((k + 1 : Nat) : Int)) (by go_simp) ?_
      simp only [Act.put, List.setIfInBounds_toArray, List.set_cons_zero, List.set_cons_succ]
      refine WL.val (by kernel_rfl) (.int .i64 ((k + 1 : Nat) : Int)) (by go_simp) ?_
      simp only [Act.put, List.setIfInBounds_toArray, List.set_cons_zero, List.set_cons_succ]
      refine WL.nil ?_
      refine ⟨⟨k + 1, .int .i64 (k : Int), .slice (some ⟨gl, 0, none⟩) 6 c, .int .i64 (t : Int), .pointer (some ⟨gl, t, none⟩), .slice (some ⟨g, 0, none⟩) (L t).length pc, .int .i64 ((L t).length : Int), .bool true, .int .i64 (k : Int), .int .i64 ((k + 1 : Nat) : Int), .slice (some ⟨gl, 0, none⟩) 6 c, .int .i64 (t : Int), .pointer (some ⟨gl, t, none⟩), .slice (some ⟨g, 0, none⟩) (L t).length pc, .int .i64 (k : Int), .int .i64 (t : Int), .int .i64 ((t + 1 : Nat) : Int), .int .u8 (IntKind.u8.wrap ((t + 1 : Nat) : Int)), .agg cc, .pointer (some ⟨g, k * 32, none⟩), rfl, by omega, N1.out, NG.out⟩, ?_⟩
      simp only [intOf]; show (L t).length - (((k + 1 : Nat) : Int)).toNat < (L t).length - ((k : Int)).toNat; omega
    · have hke : k = (L t).length := by omega
      have hkl' : ¬ (k : Int) < ((L t).length : Int) := by omega
      refine wp_seq_k fun K11 hK11 => ?_
      refine wp_seq_k fun K12 hK12 => ?_
      refine wp_region_list (WL.out ?_)
      refine WL.val (by kernel_rfl) (.int .i64 (k : Int)) (by go_simp) ?_
      simp only [Act.put, List.setIfInBounds_toArray, List.set_cons_zero, List.set_cons_succ]
      refine WL.val (by kernel_rfl) (.slice (some ⟨gl, 0, none⟩) 6 c) (by go_simp) ?_
      simp only [Act.put, List.setIfInBounds_toArray, List.set_cons_zero, List.set_cons_succ]
      refine WL.val (by kernel_rfl) (.int .i64 (t : Int)) (by go_simp) ?_
      simp only [Act.put, List.setIfInBounds_toArray, List.set_cons_zero, List.set_cons_succ]
      refine WL.val (by kernel_rfl) (.pointer (some ⟨gl, t, none⟩)) (by go_simp) ?_
      simp only [Act.put, List.setIfInBounds_toArray, List.set_cons_zero, List.set_cons_succ]
      have cV : wi.cell? ⟨gl, t, none⟩ = some (.slice pa (L t).length pc) := by rw [← EV.out]; exact K1.out.cell t htl
      refine WL.val (by kernel_rfl) (.slice pa (L t).length pc) (by go_simp) ?_
      clear cV
      simp only [Act.put, List.setIfInBounds_toArray, List.set_cons_zero, List.set_cons_succ]
      refine WL.val (by kernel_rfl) (.int .i64 ((L t).length : Int)) (by go_simp) ?_
      simp only [Act.put, List.setIfInBounds_toArray, List.set_cons_zero, List.set_cons_succ]
      refine WL.val (by kernel_rfl) (.bool false) (by go_simp) ?_
      simp only [Act.put, List.setIfInBounds_toArray, List.set_cons_zero, List.set_cons_succ]
      refine WL.nil ?_
      refine hK12 _ _ ?_
      refine wp_cond_false rfl ?_
      refine wp_exit ?_
      refine hK6 _ _ ?_
      refine wp_region_list (WL.out ?_)
      refine WL.val (by kernel_rfl) (.int .i64 (t : Int)) (by go_simp) ?_
      simp only [Act.put, List.setIfInBounds_toArray, List.set_cons_zero, List.set_cons_succ]
      refine WL.val (by kernel_rfl) (.int .i64 ((t + 1 : Nat) : Int)) (by go_simp) ?_
      simp only [Act.put, List.setIfInBounds_toArray, List.set_cons_zero, List.set_cons_succ]
      refine WL.val (by kernel_rfl) (.int .i64 ((t + 1 : Nat) : Int)) (by go_simp) ?_
      simp only [Act.put, List.setIfInBounds_toArray, List.set_cons_zero, List.set_cons_succ]
      refine WL.nil ?_
      refine ⟨⟨t + 1, .int .i64 (k : Int), .int .i64 (t : Int), .slice (some ⟨gl, 0, none⟩) 6 c, .int .i64 6, .bool true, .int .i64 (t : Int), .int .i64 ((t + 1 : Nat) : Int), .int .i64 (k : Int), .slice (some ⟨gl, 0, none⟩) 6 c, .int .i64 (t : Int), .pointer (some ⟨gl, t, none⟩), .slice pa (L t).length pc, .int .i64 ((L t).length : Int), .bool false, z23, z24, z25, z26, z27, z28, z29, z30, z31, z32, z33, z34, rfl, by omega, K1.out.congr (fun i _ => by rw [hke]; exact LA_next L t i), KG.out⟩, ?_⟩
      simp only [intOf]; show 6 - (((t + 1 : Nat) : Int)).toNat < 6 - ((t : Int)).toNat; omega
  · have hte : t = 6 := by omega
    have htl' : ¬ (t : Int) < 6 := by omega
    subst hte
    have M1 : Keep (LsAt wr B v gl V fun j => List.replicate (L j).length (mkH j)) := ⟨J1.out.congr fun i hi => LA_done L i hi⟩
    have MG := JG
    clear J1
    refine wp_seq_k fun K13 hK13 => ?_
    refine wp_seq_k fun K14 hK14 => ?_
    refine wp_region_list (WL.out ?_)
    refine WL.val (by kernel_rfl) (.int .i64 ((6 : Nat) : Int)) (by go_simp) ?_
    simp only [Act.put, List.setIfInBounds_toArray, List.set_cons_zero, List.set_cons_succ]
    refine WL.val (by kernel_rfl) (.slice (some ⟨gl, 0, none⟩) 6 c) (by go_simp) ?_
    simp only [Act.put, List.setIfInBounds_toArray, List.set_cons_zero, List.set_cons_succ]
    refine WL.val (by kernel_rfl) (.int .i64 6) (by go_simp) ?_
    simp only [Act.put, List.setIfInBounds_toArray, List.set_cons_zero, List.set_cons_succ]
    refine WL.val (by kernel_rfl) (.bool false) (by go_simp) ?_
    simp only [Act.put, List.setIfInBounds_toArray, List.set_cons_zero, List.set_cons_succ]
    refine WL.nil ?_
    refine hK14 _ _ ?_
    refine wp_cond_false rfl ?_
    refine wp_exit ?_
    refine hK2 _ _ ?_
    refine wp_seq_k fun K15 hK15 => ?_
    refine wp_seq_k fun K16 hK16 => ?_
    refine wp_region_list (WL.out ?_)
    refine WL.val (by kernel_rfl) (.int .i64 0) (by go_simp) ?_
    simp only [Act.put, List.setIfInBounds_toArray, List.set_cons_zero, List.set_cons_succ]
    refine WL.nil ?_
    refine hK16 _ _ ?_
    refine wp_block ?_
    refine wp_loop (fun ac wp => ∃ (t : Nat) (p6 p7 p35 p36 p37 p38 p39 p40 p41 p42 p43 p44 p45 p46 p47 p48 p49 p50 p51 p52 : Value), ac = { tmps := #[.slice (some ⟨gl, 0, none⟩) 6 c, undef, .bool false, .int .i64 ((6 : Nat) : Int), u4, .int .i64 (t : Int), p6, p7, undef, undef, .int .i64 ((6 : Nat) : Int), .slice (some ⟨gl, 0, none⟩) 6 c, .int .i64 6, .bool false, u14, u15, u16, u17, u18, u19, u20, u21, u22, u23, u24, u25, u26, u27, u28, u29, u30, u31, u32, u33, u34, p35, p36, p37, p38, p39, p40, p41, p42, p43, p44, p45, p46, p47, p48, p49, p50, p51, p52, undef, undef, undef, undef, undef, undef, undef, undef, undef, undef, undef, undef, undef, undef, undef, undef, undef, undef, undef, undef, undef, undef, undef, undef, undef, undef, undef], defers := [] } ∧ t ≤ 6 ∧ LsAt wp B v gl V (fun j => List.replicate (L j).length (mkH j)) ∧ (Grown w wp fun k => ∃ i, i < 6 ∧ (V i).ownBlock = some k)) (fun a _ => 6 - (intOf (a.tmps.getD 5 undef)).toNat) ⟨0, undef, undef, undef, undef, undef, undef, undef, undef, undef, undef, undef, undef, undef, undef, undef, undef, undef, undef, undef, undef, rfl, by omega, M1.out, MG.out⟩ ?_
    rintro ac wp ⟨t, p6, p7, p35, p36, p37, p38, p39, p40, p41, p42, p43, p44, p45, p46, p47, p48, p49, p50, p51, p52, rfl, ht, h1, hG⟩
    have J1 := Keep.mk h1
    have JG := Keep.mk hG
    clear h1 hG
    by_cases htl : t < 6
    · have htl' : (t : Int) < 6 := by omega
      have hwt : IntKind.i64.wrap ((t : Int) + 1) = ((t + 1 : Nat) : Int) := by rw [IntKind.wrap_i64]; omega
      obtain ⟨pa, pc, eV⟩ := (J1.out.own t htl).sl
      rw [List.length_replicate] at eV
      have EV : Keep (V t = .slice pa (L t).length pc) := ⟨eV⟩
      have HLt := Keep.mk (HL.out t htl)
      have HX0 : Keep (OwnX wp (.slice pa (L t).length pc) ((L t).length + 0)) := ⟨by have h := (J1.out.own t htl).x; rw [List.length_replicate, eV] at h; exact h⟩
      have HLq := Keep.mk J1.out.lt
      have KW0 : Keep (w.heap.size ≤ wp.heap.size) := ⟨JG.out.size⟩
      clear eV
      refine wp_seq_k fun K17 hK17 => ?_
      refine wp_seq_k fun K18 hK18 => ?_
      refine wp_region_list (WL.out ?_)
      refine WL.val (by kernel_rfl) (.int .i64 (t : Int)) (by go_simp) ?_
      simp only [Act.put, List.setIfInBounds_toArray, List.set_cons_zero, List.set_cons_succ]
      refine WL.val (by kernel_rfl) (.slice (some ⟨gl, 0, none⟩) 6 c) (by go_simp) ?_
      simp only [Act.put, List.setIfInBounds_toArray, List.set_cons_zero, List.set_cons_succ]
      refine WL.val (by kernel_rfl) (.int .i64 6) (by go_simp) ?_
      simp only [Act.put, List.setIfInBounds_toArray, List.set_cons_zero, List.set_cons_succ]
      refine WL.val (by kernel_rfl) (.bool true) (by go_simp) ?_
      simp only [Act.put, List.setIfInBounds_toArray, List.set_cons_zero, List.set_cons_succ]
      refine WL.nil ?_
      refine hK18 _ _ ?_
      refine wp_cond_true rfl ?_
      refine wp_skip ?_
      refine hK17 _ _ ?_
      refine wp_seq_k fun K19 hK19 => ?_
      refine wp_block ?_
      refine wp_seq_k fun K20 hK20 => ?_
      refine wp_region_list (WL.out ?_)
      refine WL.val (by kernel_rfl) (.slice (some ⟨gl, 0, none⟩) 6 c) (by go_simp) ?_
      simp only [Act.put, List.setIfInBounds_toArray, List.set_cons_zero, List.set_cons_succ]
      refine WL.val (by kernel_rfl) (.int .i64 (t : Int)) (by go_simp) ?_
      simp only [Act.put, List.setIfInBounds_toArray, List.set_cons_zero, List.set_cons_succ]
      refine WL.val (by kernel_rfl) (.pointer (some ⟨gl, t, none⟩)) (by go_simp) ?_
      simp only [Act.put, List.setIfInBounds_toArray, List.set_cons_zero, List.set_cons_succ]
      have cV : wp.cell? ⟨gl, t, none⟩ = some (.slice pa (L t).length pc) := by rw [← EV.out]; exact J1.out.cell t htl
      refine WL.val (by kernel_rfl) (.slice pa (L t).length pc) (by go_simp) ?_
      clear cV
      simp only [Act.put, List.setIfInBounds_toArray, List.set_cons_zero, List.set_cons_succ]
      refine WL.val (by kernel_rfl) (.slice pa (L t).length pc) (by go_simp) ?_
      simp only [Act.put, List.setIfInBounds_toArray, List.set_cons_zero, List.set_cons_succ]
      refine WL.nil ?_
      refine hK20 _ _ ?_
      refine wp_seq_k fun K21 hK21 => ?_
      refine wp_region_list (WL.out ?_)
      refine WL.val (by kernel_rfl) (.int .i64 0) (by go_simp) ?_
      simp only [Act.put, List.setIfInBounds_toArray, List.set_cons_zero, List.set_cons_succ]
      refine WL.nil ?_
      refine hK21 _ _ ?_
      refine wp_block ?_
      refine wp_loop (fun ac wj => ∃ (j : Nat) (y6 y45 y46 y47 y48 y49 y50 y51 y52 : Value) (qa : Option Addr) (qc : Nat), ac = { tmps := #[.slice (some ⟨gl, 0, none⟩) 6 c, undef, .bool false, .int .i64 ((6 : Nat) : Int), u4, .int .i64 (t : Int), y6, .int .i64 (j : Int), undef, undef, .int .i64 ((6 : Nat) : Int), .slice (some ⟨gl, 0, none⟩) 6 c, .int .i64 6, .bool false, u14, u15, u16, u17, u18, u19, u20, u21, u22, u23, u24, u25, u26, u27, u28, u29, u30, u31, u32, u33, u34, .int .i64 (t : Int), .slice (some ⟨gl, 0, none⟩) 6 c, .int .i64 6, .bool true, p39, p40, .slice (some ⟨gl, 0, none⟩) 6 c, .int .i64 (t : Int), .pointer (some ⟨gl, t, none⟩), .slice pa (L t).length pc, y45, y46, y47, y48, y49, y50, y51, y52, undef, undef, undef, undef, undef, undef, undef, undef, undef, undef, undef, undef, undef, undef, undef, undef, undef, undef, undef, undef, undef, undef, undef, undef, undef, undef, undef], defers := [] } ∧ j ≤ 20 ∧ y6 = .slice qa ((L t).length + j) qc ∧ LsAt wj B v gl V (fun j => List.replicate (L j).length (mkH j)) ∧ OwnX wj y6 ((L t).length + j) ∧ Grw wp.heap.size pa (L t).length pc y6 j ∧ (Grown w wj fun k => ∃ i, i < 6 ∧ (V i).ownBlock = some k) ∧ wp.heap.size ≤ wj.heap.size) (fun a _ => 20 - (intOf (a.tmps.getD 7 undef)).toNat) ⟨0, .slice pa (L t).length pc, p45, p46, p47, p48, p49, p50, p51, p52, pa, pc, rfl, by omega, rfl, J1.out, HX0.out, .inl rfl, JG.out, Nat.le_refl _⟩ ?_
      rintro ac wj ⟨j, y6, y45, y46, y47, y48, y49, y50, y51, y52, qa, qc, rfl, hj, he, h1, hx, hw, hG, hs⟩
      subst he
      have K1 := Keep.mk h1
      have KX := Keep.mk hx
      have KW := Keep.mk hw
      have KG := Keep.mk hG
      have KS := Keep.mk hs
      clear h1 hx hw hG hs
      by_cases hjl : j < 20
      · have hjl' : (j : Int) < 20 := by omega
        have hwj : IntKind.i64.wrap ((j : Int) + 1) = ((j + 1 : Nat) : Int) := by rw [IntKind.wrap_i64]; omega
        obtain ⟨cc, hcc⟩ : ∃ a : Array Value, Keep (a = bytesA 32 (upd (fun _ => 0) 1 238)) := ⟨_, ⟨rfl⟩⟩
        refine wp_seq_k fun K22 hK22 => ?_
        refine wp_seq_k fun K23 hK23 => ?_
        refine wp_region_list (WL.out ?_)
        refine WL.val (by kernel_rfl) (.int .i64 (j : Int)) (by go_simp) ?_
        simp only [Act.put, List.setIfInBounds_toArray, List.set_cons_zero, List.set_cons_succ]
        refine WL.val (by kernel_rfl) (.bool true) (by go_simp) ?_
        simp only [Act.put, List.setIfInBounds_toArray, List.set_cons_zero, List.set_cons_succ]
        refine WL.nil ?_
        refine hK23 _ _ ?_
        refine wp_cond_true rfl ?_
        refine wp_skip ?_
        refine hK22 _ _ ?_
        refine wp_seq_k fun K24 hK24 => ?_
        refine wp_block ?_
        refine wp_region_list (WL.out ?_)
        refine WL.val (by kernel_rfl) (.slice qa ((L t).length + j) qc) (by go_simp) ?_
        simp only [Act.put, List.setIfInBounds_toArray, List.set_cons_zero, List.set_cons_succ]
        refine WL.bld (by kernel_rfl) 36 _ rfl [(1, .int .u8 238)] (by simp [Act.eval]) cc (by rw [hcc.out]; exact built238) ?_
        simp only [Act.put, List.setIfInBounds_toArray, List.set_cons_zero, List.set_cons_succ]
        refine WL.bs (by kernel_rfl) 37 1 _ rfl #[(0, .agg cc)] (by simp [Act.eval]) _ _ (by rw [hcc.out]; exact Try.bs1 _ wj) ?_
        rw [← hcc.out]
        have HGy := Keep.mk (Blk.new wj 36 cc)
        have B5 := Keep.mk (below_new wj (.cells cc 36))
        generalize wj.alloc (.cells cc 36) = w5 at *
        have K15 := Keep.mk (K1.out.below B5.out)
        have KX5 := Keep.mk (OwnX.below KX.out B5.out)
        have KG5 : Keep (Grown w w5 fun k => ∃ i, i < 6 ∧ (V i).ownBlock = some k) := ⟨KG.out.trans (Grown.below B5.out)⟩
        have KS5 : Keep (wp.heap.size ≤ w5.heap.size) := ⟨Nat.le_trans KS.out B5.out.size⟩
        generalize wj.heap.size = gy at *
        simp only [Act.put, List.setIfInBounds_toArray, List.set_cons_zero, List.set_cons_succ]
        refine WL.appX2 (by kernel_rfl) (.tmp 49) (.tmp 51) rfl qa ((L t).length + j) qc gy cc rfl rfl KX5.out HGy.out (by rw [hcc.out, bytesA_size]) (by rw [hcc.out]; exact bytesA_one _ _) (by have := HLt.out; omega) fun v6 w6 hx hr => ?_
        have hap := apart_app (L := (fun j => List.replicate (L j).length (mkH j))) (t := t) (pa := pa) (c := pc) (qa := qa) (qc := qc) (j := j) (cs := cc) K15.out HA.out htl (by rw [List.length_replicate]; exact EV.out) KS5.out HLq.out (by rw [List.length_replicate]; exact KW.out) (by rw [hcc.out, bytesA_size]) (by rw [List.length_replicate]; exact hx) (by rw [List.length_replicate]; exact KX5.out) (by rw [List.length_replicate]; exact hr)
        rw [List.length_replicate] at hap
        have N1 := Keep.mk hap.1
        have NW := Keep.mk hap.2.1
        have NX := Keep.mk hx
        have NG : Keep (Grown w w6 fun k => ∃ i, i < 6 ∧ (V i).ownBlock = some k) := ⟨KG5.out.next hap.2.2 fun i hi e => e.elim (fun h => by have := KW0.out; omega) fun h => ⟨t, htl, h⟩⟩
        have NS : Keep (wp.heap.size ≤ w6.heap.size) := ⟨Nat.le_trans KS5.out hap.2.2.size⟩
        obtain ⟨ra, rc, er⟩ := hx.sl
        have ER := Keep.mk er
        clear hx hr hap er
        simp only [Act.put, List.setIfInBounds_toArray, List.set_cons_zero, List.set_cons_succ]
        refine WL.val (by kernel_rfl) (v6) (by go_simp) ?_
        simp only [Act.put, List.setIfInBounds_toArray, List.set_cons_zero, List.set_cons_succ]
        refine WL.nil ?_
        refine hK24 _ _ ?_
        refine wp_region_list (WL.out ?_)
        refine WL.val (by kernel_rfl) (.int .i64 (j : Int)) (by go_simp) ?_
        simp only [Act.put, List.setIfInBounds_toArray, List.set_cons_zero, List.set_cons_succ]
        refine WL.val (by kernel_rfl) (.int .i64 ((j + 1 : Nat) : Int)) (by go_simp) ?_
        simp only [Act.put, List.setIfInBounds_toArray, List.set_cons_zero, List.set_cons_succ]
        refine WL.val (by kernel_rfl) (.int .i64 ((j + 1 : Nat) : Int)) (by go_simp) ?_
        simp only [Act.put, List.setIfInBounds_toArray, List.set_cons_zero, List.set_cons_succ]
        refine WL.nil ?_
        refine ⟨⟨j + 1, v6, .int .i64 (j : Int), .bool true, .int .i64 (j : Int), .int .i64 ((j + 1 : Nat) : Int), .slice qa ((L t).length + j) qc, .agg cc, .slice (some ⟨gy, 0, none⟩) 1 1, v6, ra, rc, rfl, by omega, ER.out, N1.out, NX.out, NW.out, NG.out, NS.out⟩, ?_⟩
        simp only [intOf]; show 20 - (((j + 1 : Nat) : Int)).toNat < 20 - ((j : Int)).toNat; omega
      · have hjl' : ¬ (j : Int) < 20 := by omega
        refine wp_seq_k fun K25 hK25 => ?_
        refine wp_seq_k fun K26 hK26 => ?_
        refine wp_region_list (WL.out ?_)
        refine WL.val (by kernel_rfl) (.int .i64 (j : Int)) (by go_simp) ?_
        simp only [Act.put, List.setIfInBounds_toArray, List.set_cons_zero, List.set_cons_succ]
        refine WL.val (by kernel_rfl) (.bool false) (by go_simp) ?_
        simp only [Act.put, List.setIfInBounds_toArray, List.set_cons_zero, List.set_cons_succ]
        refine WL.nil ?_
        refine hK26 _ _ ?_
        refine wp_cond_false rfl ?_
        refine wp_exit ?_
        refine hK19 _ _ ?_
        refine wp_region_list (WL.out ?_)
        refine WL.val (by kernel_rfl) (.int .i64 (t : Int)) (by go_simp) ?_
        simp only [Act.put, List.setIfInBounds_toArray, List.set_cons_zero, List.set_cons_succ]
        refine WL.val (by kernel_rfl) (.int .i64 ((t + 1 : Nat) : Int)) (by go_simp) ?_
        simp only [Act.put, List.setIfInBounds_toArray, List.set_cons_zero, List.set_cons_succ]
        refine WL.val (by kernel_rfl) (.int .i64 ((t + 1 : Nat) : Int)) (by go_simp) ?_
        simp only [Act.put, List.setIfInBounds_toArray, List.set_cons_zero, List.set_cons_succ]
        refine WL.nil ?_
        refine ⟨⟨t + 1, .slice qa ((L t).length + j) qc, .int .i64 (j : Int), .int .i64 (t : Int), .slice (some ⟨gl, 0, none⟩) 6 c, .int .i64 6, .bool true, .int .i64 (t : Int), .int .i64 ((t + 1 : Nat) : Int), .slice (some ⟨gl, 0, none⟩) 6 c, .int .i64 (t : Int), .pointer (some ⟨gl, t, none⟩), .slice pa (L t).length pc, .int .i64 (j : Int), .bool false, y47, y48, y49, y50, y51, y52, rfl, by omega, K1.out, KG.out⟩, ?_⟩
        simp only [intOf]; show 6 - (((t + 1 : Nat) : Int)).toNat < 6 - ((t : Int)).toNat; omega
    · have hte : t = 6 := by omega
      have htl' : ¬ (t : Int) < 6 := by omega
      subst hte
      have P1 := J1
      have PG := JG
      clear J1
      refine wp_seq_k fun K27 hK27 => ?_
      refine wp_seq_k fun K28 hK28 => ?_
      refine wp_region_list (WL.out ?_)
      refine WL.val (by kernel_rfl) (.int .i64 ((6 : Nat) : Int)) (by go_simp) ?_
      simp only [Act.put, List.setIfInBounds_toArray, List.set_cons_zero, List.set_cons_succ]
      refine WL.val (by kernel_rfl) (.slice (some ⟨gl, 0, none⟩) 6 c) (by go_simp) ?_
      simp only [Act.put, List.setIfInBounds_toArray, List.set_cons_zero, List.set_cons_succ]
      refine WL.val (by kernel_rfl) (.int .i64 6) (by go_simp) ?_
      simp only [Act.put, List.setIfInBounds_toArray, List.set_cons_zero, List.set_cons_succ]
      refine WL.val (by kernel_rfl) (.bool false) (by go_simp) ?_
      simp only [Act.put, List.setIfInBounds_toArray, List.set_cons_zero, List.set_cons_succ]
      refine WL.nil ?_
      refine hK28 _ _ ?_
      refine wp_cond_false rfl ?_
      refine wp_exit ?_
      refine hK15 _ _ ?_
      refine wp_seq_k fun K29 hK29 => ?_
      refine wp_seq_k fun K30 hK30 => ?_
      refine wp_region_list (WL.out ?_)
      refine WL.val (by kernel_rfl) (.int .i64 0) (by go_simp) ?_
      simp only [Act.put, List.setIfInBounds_toArray, List.set_cons_zero, List.set_cons_succ]
      refine WL.nil ?_
      refine hK30 _ _ ?_
      refine wp_block ?_
      refine wp_loop (fun ac wc => ∃ (t : Nat) (q2 q9 q53 q54 q55 q56 q57 q58 q59 q60 q61 q62 q63 q64 q65 q66 q67 q68 q69 q70 q71 q72 q73 q74 q75 q76 q77 q78 q79 : Value), ac = { tmps := #[.slice (some ⟨gl, 0, none⟩) 6 c, undef, q2, .int .i64 ((6 : Nat) : Int), u4, .int .i64 ((6 : Nat) : Int), p6, p7, .int .i64 (t : Int), q9, .int .i64 ((6 : Nat) : Int), .slice (some ⟨gl, 0, none⟩) 6 c, .int .i64 6, .bool false, u14, u15, u16, u17, u18, u19, u20, u21, u22, u23, u24, u25, u26, u27, u28, u29, u30, u31, u32, u33, u34, .int .i64 ((6 : Nat) : Int), .slice (some ⟨gl, 0, none⟩) 6 c, .int .i64 6, .bool false, p39, p40, p41, p42, p43, p44, p45, p46, p47, p48, p49, p50, p51, p52, q53, q54, q55, q56, q57, q58, q59, q60, q61, q62, q63, q64, q65, q66, q67, q68, q69, q70, q71, q72, q73, q74, q75, q76, q77, q78, q79], defers := [] } ∧ t ≤ 6 ∧ Below wp.heap.size wp wc) (fun a _ => 6 - (intOf (a.tmps.getD 8 undef)).toNat) ⟨0, .bool false, undef, undef, undef, undef, undef, undef, undef, undef, undef, undef, undef, undef, undef, undef, undef, undef, undef, undef, undef, undef, undef, undef, undef, undef, undef, undef, undef, undef, rfl, by omega, Below.refl _ _⟩ ?_
      rintro ac wc ⟨t, q2, q9, q53, q54, q55, q56, q57, q58, q59, q60, q61, q62, q63, q64, q65, q66, q67, q68, q69, q70, q71, q72, q73, q74, q75, q76, q77, q78, q79, rfl, ht, hB⟩
      have JB := Keep.mk hB
      clear hB
      by_cases htl : t < 6
      · have htl' : (t : Int) < 6 := by omega
        have hwt : IntKind.i64.wrap ((t : Int) + 1) = ((t + 1 : Nat) : Int) := by rw [IntKind.wrap_i64]; omega
        obtain ⟨pa, pc, eV⟩ := (P1.out.own t htl).sl
        rw [List.length_replicate] at eV
        have EV : Keep (V t = .slice pa (L t).length pc) := ⟨eV⟩
        have HLt := Keep.mk (HL.out t htl)
        clear eV
        refine wp_seq_k fun K31 hK31 => ?_
        refine wp_seq_k fun K32 hK32 => ?_
        refine wp_region_list (WL.out ?_)
        refine WL.val (by kernel_rfl) (.int .i64 (t : Int)) (by go_simp) ?_
        simp only [Act.put, List.setIfInBounds_toArray, List.set_cons_zero, List.set_cons_succ]
        refine WL.val (by kernel_rfl) (.slice (some ⟨gl, 0, none⟩) 6 c) (by go_simp) ?_
        simp only [Act.put, List.setIfInBounds_toArray, List.set_cons_zero, List.set_cons_succ]
        refine WL.val (by kernel_rfl) (.int .i64 6) (by go_simp) ?_
        simp only [Act.put, List.setIfInBounds_toArray, List.set_cons_zero, List.set_cons_succ]
        refine WL.val (by kernel_rfl) (.bool true) (by go_simp) ?_
        simp only [Act.put, List.setIfInBounds_toArray, List.set_cons_zero, List.set_cons_succ]
        refine WL.nil ?_
        refine hK32 _ _ ?_
        refine wp_cond_true rfl ?_
        refine wp_skip ?_
        refine hK31 _ _ ?_
        refine wp_seq_k fun K33 hK33 => ?_
        refine wp_block ?_
        refine wp_seq_k fun K34 hK34 => ?_
        refine wp_region_list (WL.out ?_)
        refine WL.val (by kernel_rfl) (.int .i64 0) (by go_simp) ?_
        simp only [Act.put, List.setIfInBounds_toArray, List.set_cons_zero, List.set_cons_succ]
        refine WL.nil ?_
        refine hK34 _ _ ?_
        refine wp_block ?_
        refine wp_loop (fun ac wk => ∃ (k : Nat) (r2 r59 r60 r61 r62 r63 r64 r65 r66 r67 r68 r69 r70 r71 r72 r73 r74 r75 r76 r77 r78 r79 : Value), ac = { tmps := #[.slice (some ⟨gl, 0, none⟩) 6 c, undef, r2, .int .i64 ((6 : Nat) : Int), u4, .int .i64 ((6 : Nat) : Int), p6, p7, .int .i64 (t : Int), .int .i64 (k : Int), .int .i64 ((6 : Nat) : Int), .slice (some ⟨gl, 0, none⟩) 6 c, .int .i64 6, .bool false, u14, u15, u16, u17, u18, u19, u20, u21, u22, u23, u24, u25, u26, u27, u28, u29, u30, u31, u32, u33, u34, .int .i64 ((6 : Nat) : Int), .slice (some ⟨gl, 0, none⟩) 6 c, .int .i64 6, .bool false, p39, p40, p41, p42, p43, p44, p45, p46, p47, p48, p49, p50, p51, p52, .int .i64 (t : Int), .slice (some ⟨gl, 0, none⟩) 6 c, .int .i64 6, .bool true, q57, q58, r59, r60, r61, r62, r63, r64, r65, r66, r67, r68, r69, r70, r71, r72, r73, r74, r75, r76, r77, r78, r79], defers := [] } ∧ k ≤ (L t).length ∧ Below wp.heap.size wp wk) (fun a _ => (L t).length - (intOf (a.tmps.getD 9 undef)).toNat) ⟨0, q2, q59, q60, q61, q62, q63, q64, q65, q66, q67, q68, q69, q70, q71, q72, q73, q74, q75, q76, q77, q78, q79, rfl, by omega, JB.out⟩ ?_
        rintro ac wk ⟨k, r2, r59, r60, r61, r62, r63, r64, r65, r66, r67, r68, r69, r70, r71, r72, r73, r74, r75, r76, r77, r78, r79, rfl, hk, hB⟩
        have KB := Keep.mk hB
        have K1 := Keep.mk (P1.out.below hB)
        clear hB
        by_cases hkl : k < (L t).length
        · have hkl' : (k : Int) < ((L t).length : Int) := by omega
          have hwk : IntKind.i64.wrap ((k : Int) + 1) = ((k + 1 : Nat) : Int) := by rw [IntKind.wrap_i64]; have := HLt.out; omega
          have hO : OwnH wk (.slice pa (L t).length pc) (List.replicate (L t).length (mkH t)) := by rw [← EV.out]; exact K1.out.own t htl
          obtain ⟨g, op, hpa, -, -, hrg⟩ := hO.row.at (by rw [List.length_replicate]; omega)
          have hel := rangeAt_elem hrg k (by rw [List.length_replicate]; exact hkl)
          rw [List.getElem_replicate] at hel
          have Hel := Keep.mk hel
          subst hpa
          have hneq := run_neqH (mkH t) (mkH t)
          rw [decide_eq_true rfl] at hneq
          have Hneq := Keep.mk hneq
          clear hO hrg hel hneq
          refine wp_seq_k fun K35 hK35 => ?_
          refine wp_seq_k fun K36 hK36 => ?_
          refine wp_region_list (WL.out ?_)
          refine WL.val (by kernel_rfl) (.int .i64 (k : Int)) (by go_simp) ?_
          simp only [Act.put, List.setIfInBounds_toArray, List.set_cons_zero, List.set_cons_succ]
          refine WL.val (by kernel_rfl) (.slice (some ⟨gl, 0, none⟩) 6 c) (by go_simp) ?_
          simp only [Act.put, List.setIfInBounds_toArray, List.set_cons_zero, List.set_cons_succ]
          refine WL.val (by kernel_rfl) (.int .i64 (t : Int)) (by go_simp) ?_
          simp only [Act.put, List.setIfInBounds_toArray, List.set_cons_zero, List.set_cons_succ]
          refine WL.val (by kernel_rfl) (.pointer (some ⟨gl, t, none⟩)) (by go_simp) ?_
          simp only [Act.put, List.setIfInBounds_toArray, List.set_cons_zero, List.set_cons_succ]
          have cV : wk.cell? ⟨gl, t, none⟩ = some (.slice (some ⟨g, op, none⟩) (L t).length pc) := by rw [← EV.out]; exact K1.out.cell t htl
          refine WL.val (by kernel_rfl) (.slice (some ⟨g, op, none⟩) (L t).length pc) (by go_simp) ?_
          clear cV
          simp only [Act.put, List.setIfInBounds_toArray, List.set_cons_zero, List.set_cons_succ]
          refine WL.val (by kernel_rfl) (.int .i64 ((L t).length : Int)) (by go_simp) ?_
          simp only [Act.put, List.setIfInBounds_toArray, List.set_cons_zero, List.set_cons_succ]
          refine WL.val (by kernel_rfl) (.bool true) (by go_simp) ?_
          simp only [Act.put, List.setIfInBounds_toArray, List.set_cons_zero, List.set_cons_succ]
          refine WL.nil ?_
          refine hK36 _ _ ?_
          refine wp_cond_true rfl ?_
          refine wp_skip ?_
          refine hK35 _ _ ?_
          refine wp_seq_k fun K37 hK37 => ?_
          refine wp_block ?_
          refine wp_seq_k fun K38 hK38 => ?_
          refine wp_region_list (WL.out ?_)
          refine WL.val (by kernel_rfl) (.slice (some ⟨gl, 0, none⟩) 6 c) (by go_simp) ?_
          simp only [Act.put, List.setIfInBounds_toArray, List.set_cons_zero, List.set_cons_succ]
          refine WL.val (by kernel_rfl) (.int .i64 (t : Int)) (by go_simp) ?_
          simp only [Act.put, List.setIfInBounds_toArray, List.set_cons_zero, List.set_cons_succ]
          refine WL.val (by kernel_rfl) (.pointer (some ⟨gl, t, none⟩)) (by go_simp) ?_
          simp only [Act.put, List.setIfInBounds_toArray, List.set_cons_zero, List.set_cons_succ]
          have cV : wk.cell? ⟨gl, t, none⟩ = some (.slice (some ⟨g, op, none⟩) (L t).length pc) := by rw [← EV.out]; exact K1.out.cell t htl
          refine WL.val (by kernel_rfl) (.slice (some ⟨g, op, none⟩) (L t).length pc) (by go_simp) ?_
          clear cV
          simp only [Act.put, List.setIfInBounds_toArray, List.set_cons_zero, List.set_cons_succ]
          refine WL.val (by kernel_rfl) (.int .i64 (k : Int)) (by go_simp) ?_
          simp only [Act.put, List.setIfInBounds_toArray, List.set_cons_zero, List.set_cons_succ]
          refine WL.val (by kernel_rfl) (.pointer (some ⟨g, op + k * 32, none⟩)) (by go_simp) ?_
          simp only [Act.put, List.setIfInBounds_toArray, List.set_cons_zero, List.set_cons_succ]
          refine WL.mid (by kernel_rfl) 36 (.tmp 73) rfl g (op + k * 32) rfl (encH (mkH t)) _ Hel.out Try.underlying36 rfl (Try.size36L _) ?_
          rw [enc_load]
          simp only [Act.put, List.setIfInBounds_toArray, List.set_cons_zero, List.set_cons_succ]
          refine WL.val (by kernel_rfl) (.int .i64 (t : Int)) (by go_simp) ?_
          simp only [Act.put, List.setIfInBounds_toArray, List.set_cons_zero, List.set_cons_succ]
          refine WL.val (by kernel_rfl) (.int .i64 ((t + 1 : Nat) : Int)) (by go_simp) ?_
          simp only [Act.put, List.setIfInBounds_toArray, List.set_cons_zero, List.set_cons_succ]
          refine WL.val (by kernel_rfl) (.int .u8 (IntKind.u8.wrap ((t + 1 : Nat) : Int))) (by go_simp) ?_
          simp only [Act.put, List.setIfInBounds_toArray, List.set_cons_zero, List.set_cons_succ]
          refine WL.bld (by kernel_rfl) 36 _ rfl [(1, .int .u8 (IntKind.u8.wrap ((t + 1 : Nat) : Int)))] (by simp [Act.eval]) (bytesA 32 (mkH t).f) (builtM t htl) ?_
          simp only [Act.put, List.setIfInBounds_toArray, List.set_cons_zero, List.set_cons_succ]
          refine WL.val (by kernel_rfl) (.bool false) (by go_simp; rw [run_equal_arr2, all_eq_iff, decide_eq_true rfl]; rfl) ?_
          simp only [Act.put, List.setIfInBounds_toArray, List.set_cons_zero, List.set_cons_succ]
          refine WL.nil ?_
          refine hK38 _ _ ?_
          refine wp_cond_false rfl ?_
          refine wp_skip ?_
          refine hK37 _ _ ?_
          refine wp_region_list (WL.out ?_)
          refine WL.val (by kernel_rfl) (.int .i64 (k : Int)) (by go_simp) ?_
          simp only [Act.put, List.setIfInBounds_toArray, List.set_cons_zero, List.set_cons_succ]
          refine WL.val (by kernel_rfl) (.int .i64 ((k + 1 : Nat) : Int)) (by go_simp) ?_
          simp only [Act.put, List.setIfInBounds_toArray, List.set_cons_zero, List.set_cons_succ]
          refine WL.val (by kernel_rfl) (.int .i64 ((k + 1 : Nat) : Int)) (by go_simp) ?_
          simp only [Act.put, List.setIfInBounds_toArray, List.set_cons_zero, List.set_cons_succ]
          refine WL.nil ?_
          refine ⟨⟨k + 1, r2, .int .i64 (k : Int), .slice (some ⟨gl, 0, none⟩) 6 c, .int .i64 (t : Int), .pointer (some ⟨gl, t, none⟩), .slice (some ⟨g, op, none⟩) (L t).length pc, .int .i64 ((L t).length : Int), .bool true, .int .i64 (k : Int), .int .i64 ((k + 1 : Nat) : Int), .slice (some ⟨gl, 0, none⟩) 6 c, .int .i64 (t : Int), .pointer (some ⟨gl, t, none⟩), .slice (some ⟨g, op, none⟩) (L t).length pc, .int .i64 (k : Int), .pointer (some ⟨g, op + k * 32, none⟩), .agg (bytesA 32 (mkH t).f), .int .i64 (t : Int), .int .i64 ((t + 1 : Nat) : Int), .int .u8 (IntKind.u8.wrap ((t + 1 : Nat) : Int)), .agg (bytesA 32 (mkH t).f), .bool false, rfl, by omega, KB.out⟩, ?_⟩
          simp only [intOf]; show (L t).length - (((k + 1 : Nat) : Int)).toNat < (L t).length - ((k : Int)).toNat; omega
        · have hkl' : ¬ (k : Int) < ((L t).length : Int) := by omega
          refine wp_seq_k fun K39 hK39 => ?_
          refine wp_seq_k fun K40 hK40 => ?_
          refine wp_region_list (WL.out ?_)
          refine WL.val (by kernel_rfl) (.int .i64 (k : Int)) (by go_simp) ?_
          simp only [Act.put, List.setIfInBounds_toArray, List.set_cons_zero, List.set_cons_succ]
          refine WL.val (by kernel_rfl) (.slice (some ⟨gl, 0, none⟩) 6 c) (by go_simp) ?_
          simp only [Act.put, List.setIfInBounds_toArray, List.set_cons_zero, List.set_cons_succ]
          refine WL.val (by kernel_rfl) (.int .i64 (t : Int)) (by go_simp) ?_
          simp only [Act.put, List.setIfInBounds_toArray, List.set_cons_zero, List.set_cons_succ]
          refine WL.val (by kernel_rfl) (.pointer (some ⟨gl, t, none⟩)) (by go_simp) ?_
          simp only [Act.put, List.setIfInBounds_toArray, List.set_cons_zero, List.set_cons_succ]
          have cV : wk.cell? ⟨gl, t, none⟩ = some (.slice pa (L t).length pc) := by rw [← EV.out]; exact K1.out.cell t htl
          refine WL.val (by kernel_rfl) (.slice pa (L t).length pc) (by go_simp) ?_
          clear cV
          simp only [Act.put, List.setIfInBounds_toArray, List.set_cons_zero, List.set_cons_succ]
          refine WL.val (by kernel_rfl) (.int .i64 ((L t).length : Int)) (by go_simp) ?_
          simp only [Act.put, List.setIfInBounds_toArray, List.set_cons_zero, List.set_cons_succ]
          refine WL.val (by kernel_rfl) (.bool false) (by go_simp) ?_
          simp only [Act.put, List.setIfInBounds_toArray, List.set_cons_zero, List.set_cons_succ]
          refine WL.nil ?_
          refine hK40 _ _ ?_
          refine wp_cond_false rfl ?_
          refine wp_exit ?_
          refine hK33 _ _ ?_
          refine wp_region_list (WL.out ?_)
          refine WL.val (by kernel_rfl) (.int .i64 (t : Int)) (by go_simp) ?_
          simp only [Act.put, List.setIfInBounds_toArray, List.set_cons_zero, List.set_cons_succ]
          refine WL.val (by kernel_rfl) (.int .i64 ((t + 1 : Nat) : Int)) (by go_simp) ?_
          simp only [Act.put, List.setIfInBounds_toArray, List.set_cons_zero, List.set_cons_succ]
          refine WL.val (by kernel_rfl) (.int .i64 ((t + 1 : Nat) : Int)) (by go_simp) ?_
          simp only [Act.put, List.setIfInBounds_toArray, List.set_cons_zero, List.set_cons_succ]
          refine WL.nil ?_
          refine ⟨⟨t + 1, r2, .int .i64 (k : Int), .int .i64 (t : Int), .slice (some ⟨gl, 0, none⟩) 6 c, .int .i64 6, .bool true, .int .i64 (t : Int), .int .i64 ((t + 1 : Nat) : Int), .int .i64 (k : Int), .slice (some ⟨gl, 0, none⟩) 6 c, .int .i64 (t : Int), .pointer (some ⟨gl, t, none⟩), .slice pa (L t).length pc, .int .i64 ((L t).length : Int), .bool false, r66, r67, r68, r69, r70, r71, r72, r73, r74, r75, r76, r77, r78, r79, rfl, by omega, KB.out⟩, ?_⟩
          simp only [intOf]; show 6 - (((t + 1 : Nat) : Int)).toNat < 6 - ((t : Int)).toNat; omega
      · have htl' : ¬ (t : Int) < 6 := by omega
        refine wp_seq_k fun K41 hK41 => ?_
        refine wp_seq_k fun K42 hK42 => ?_
        refine wp_region_list (WL.out ?_)
        refine WL.val (by kernel_rfl) (.int .i64 (t : Int)) (by go_simp) ?_
        simp only [Act.put, List.setIfInBounds_toArray, List.set_cons_zero, List.set_cons_succ]
        refine WL.val (by kernel_rfl) (.slice (some ⟨gl, 0, none⟩) 6 c) (by go_simp) ?_
        simp only [Act.put, List.setIfInBounds_toArray, List.set_cons_zero, List.set_cons_succ]
        refine WL.val (by kernel_rfl) (.int .i64 6) (by go_simp) ?_
        simp only [Act.put, List.setIfInBounds_toArray, List.set_cons_zero, List.set_cons_succ]
        refine WL.val (by kernel_rfl) (.bool false) (by go_simp) ?_
        simp only [Act.put, List.setIfInBounds_toArray, List.set_cons_zero, List.set_cons_succ]
        refine WL.nil ?_
        refine hK42 _ _ ?_
        refine wp_cond_false rfl ?_
        refine wp_exit ?_
        refine hK29 _ _ ?_
        refine wp_seq_k fun K43 hK43 => ?_
        refine wp_region_list (WL.out ?_)
        refine WL.val (by kernel_rfl) (.bool true) (by go_simp) ?_
        simp only [Act.put, List.setIfInBounds_toArray, List.set_cons_zero, List.set_cons_succ]
        refine WL.nil ?_
        refine hK43 _ _ ?_
        refine wp_ret ?_
        go_ret
        exact ⟨rfl, PG.out.trans (Grown.below JB.out)⟩
end Go.Proofs.Ytogmdfhicbmplaa
namespace Go.Proofs.Ytogmdfhicbmplaa
open Go.RowKit
set_option linter.unusedSimpArgs false
set_option linter.unusedVariables false

/-- A step of a script: what it is, and its vertex's parents' slice. -/
structure OP where
  k : Int
  on : Int
  q : VP
  h : Hs
def opA (o : OP) : Array Value := #[.int .i64 o.k, .int .i64 o.on] ++ vtx o.q.1.id.f o.q.1.ck o.q.2 ++ bytesA 32 o.h.f
theorem opA_size (o : OP) : (opA o).size = 68 := by simp [opA, vtx_size, bytesA_size]
theorem opA_v {w : World} {b off : Nat} {o : OP} (h : w.rangeAt b off (opA o).toList) : w.rangeAt b (off + 2) (vtx o.q.1.id.f o.q.1.ck o.q.2).toList := fun j v hv => by
  have hj := (List.getElem?_eq_some_iff.1 hv).1
  rw [Array.length_toList, vtx_size] at hj
  have := h (2 + j) v (by
    unfold opA
    rw [Array.toList_append, Array.toList_append, List.append_assoc, List.getElem?_append_right (by simp), List.getElem?_append_left (by rw [show (vtx o.q.1.id.f o.q.1.ck o.q.2).toList.length = 34 from by rw [Array.length_toList, vtx_size]]; simp; omega)]
    rw [show 2 + j - (#[Value.int .i64 o.k, .int .i64 o.on] : Array Value).toList.length = j by simp]
    exact hv)
  rw [← Nat.add_assoc] at this
  exact this
theorem opA_h {w : World} {b off : Nat} {o : OP} (h : w.rangeAt b off (opA o).toList) : w.rangeAt b (off + 36) (bytesA 32 o.h.f).toList := fun j v hv => by
  have hj := (List.getElem?_eq_some_iff.1 hv).1
  rw [Array.length_toList, bytesA_size] at hj
  have hl : (#[Value.int .i64 o.k, .int .i64 o.on] ++ vtx o.q.1.id.f o.q.1.ck o.q.2 : Array Value).toList.length = 36 := by rw [Array.length_toList, Array.size_append, vtx_size]; rfl
  have := h (36 + j) v (by
    unfold opA
    rw [Array.toList_append, List.getElem?_append_right (by omega), hl, show 36 + j - 36 = j by omega]
    exact hv)
  rw [← Nat.add_assoc] at this
  exact this
end Go.Proofs.Ytogmdfhicbmplaa
