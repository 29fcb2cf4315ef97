import Derived.Test.YthlohkgdmfkpeaaGreatB13
import Derived.Test.YthlohkgdmfkpeaaGreatB04
namespace Go.Proofs.YthlohkgdmfkpeaaGreat
open Go.RowKit
set_option linter.unusedSimpArgs false
set_option linter.unusedVariables false

def stT (S : List (Nat × List Nat)) (I : List Nat) (st : List Nat × List Nat) (i : Nat) : List Nat × List Nat := if hasW I i = true ∧ hasW st.2 i = false then (st.1 ++ [i], joinW st.2 (S.getD i (0, [])).2) else st
def tpF (S : List (Nat × List Nat)) (I : List Nat) (n : Nat) (pre : List (Fin n)) : List Nat × List Nat := pre.foldl (fun st i => stT S I st i.val) ([], List.replicate ((n + 63) / 64) 0)
theorem tpF_snoc (S : List (Nat × List Nat)) (I : List Nat) (n : Nat) (pre : List (Fin n)) (x : Fin n) : tpF S I n (pre ++ [x]) = stT S I (tpF S I n pre) x.val := by rw [tpF, List.foldl_append]; rfl
theorem stT_len (S : List (Nat × List Nat)) (I : List Nat) (st : List Nat × List Nat) (i : Nat) : (stT S I st i).2.length = st.2.length ∧ (stT S I st i).1.length ≤ st.1.length + 1 := by
 unfold stT
 split
 ·exact ⟨joinW_len _ _, by simp⟩
 ·exact ⟨rfl, by omega⟩
theorem stT_wds {S : List (Nat × List Nat)} (hS : ∀ i, Wds (S.getD i (0, [])).2) (I : List Nat) {st : List Nat × List Nat} (h : Wds st.2) (i : Nat) : Wds (stT S I st i).2 := by
 unfold stT
 split
 ·exact h.join (hS i)
 ·exact h
theorem tpF_ok {S : List (Nat × List Nat)} (hS : ∀ i, Wds (S.getD i (0, [])).2) (I : List Nat) (n : Nat) (pre : List (Fin n)) : (tpF S I n pre).2.length = (n + 63) / 64 ∧ Wds (tpF S I n pre).2 ∧ (tpF S I n pre).1.length ≤ pre.length := by
 unfold tpF
 suffices h : ∀ (pre : List (Fin n)) (st : List Nat × List Nat), st.2.length = (n + 63) / 64 → Wds st.2 → (pre.foldl (fun st i => stT S I st i.val) st).2.length = (n + 63) / 64 ∧ Wds (pre.foldl (fun st i => stT S I st i.val) st).2 ∧ (pre.foldl (fun st i => stT S I st i.val) st).1.length ≤ st.1.length + pre.length by
  have := h pre ([], List.replicate ((n + 63) / 64) 0) (by simp) (Wds.room _)
  simpa using this
 intro pre
 induction pre with
 | nil => intro st h1 h2; exact ⟨h1, h2, by simp⟩
 | cons x pre ih =>
  intro st h1 h2
  rw [List.foldl_cons]
  have h3 := ih (stT S I st x.val) (by rw [(stT_len S I st x.val).1]; exact h1) (stT_wds hS I h2 x.val)
  refine ⟨h3.1, h3.2.1, ?_⟩
  have := (stT_len S I st x.val).2
  have := h3.2.2
  rw [List.length_cons]
  omega
def idAt (H : List EP) (k : Nat) : Hs := (((exs H)[k]?).getD dEX).id
def idsT (H : List EP) (T : List Nat) : List Hs := T.map (idAt H)
structure TopSt (w : World) (p : Nat) (iv v : Value) (b2 b3 b5 b6 bg Bs : Nat) (ids : List Hs) (B : List Nat) (W : World) : Prop where
 p2 : Blk W b2 25 #[.pointer (some ⟨p, 0, none⟩)]
 i3 : Blk W b3 100 #[iv]
 l5 : ∃ u, Blk W b5 24 #[u] ∧ OwnH W u ids ∧ (∀ k, u.ownBlock = some k → w.heap.size ≤ k)
 s6 : Blk W b6 100 #[.slice (some ⟨bg, 0, none⟩) B.length B.length]
 sg : Blk W bg 93 (wdV B).toArray
 bs : Blk W Bs 23 #[v]
 bel : Below w.heap.size w W
theorem TopSt.grown {w : World} {p : Nat} {iv v : Value} {b2 b3 b5 b6 bg Bs : Nat} {ids : List Hs} {B : List Nat} {W W' : World} {S : Nat → Prop} (h : TopSt w p iv v b2 b3 b5 b6 bg Bs ids B W) (hg : Grown W W' S) (hs : ∀ k T cs, Blk W k T cs → ¬ S k) (hb : Below w.heap.size w W') : TopSt w p iv v b2 b3 b5 b6 bg Bs ids B W' := by
 obtain ⟨u, h1, h2, h3⟩ := h.l5
 have hu : ∀ k, u.ownBlock = some k → ¬ S k := fun k hk => by
  rcases h2.form with ⟨rfl, _⟩ | ⟨g, cap, cur, rfl, h4, _⟩
  ·cases hk
  ·cases hk; exact hs _ _ _ h4
 exact ⟨hg.blk h.p2 (hs _ _ _ h.p2), hg.blk h.i3 (hs _ _ _ h.i3), ⟨u, hg.blk h1 (hs _ _ _ h1), h2.grown hg hu, h3⟩, hg.blk h.s6 (hs _ _ _ h.s6), hg.blk h.sg (hs _ _ _ h.sg), hg.blk h.bs (hs _ _ _ h.bs), hb⟩
theorem TopSt.below {w : World} {p : Nat} {iv v : Value} {b2 b3 b5 b6 bg Bs : Nat} {ids : List Hs} {B : List Nat} {W W' : World} (h : TopSt w p iv v b2 b3 b5 b6 bg Bs ids B W) (hb : Below W.heap.size W W') : TopSt w p iv v b2 b3 b5 b6 bg Bs ids B W' :=
 h.grown (Grown.below (S := fun _ => False) hb) (fun _ _ _ _ h => h) (belowC h.bel hb)
theorem TopSt.ownFrom {β : Type} {w : World} {p : Nat} {iv v : Value} {b2 b3 b5 b6 bg Bs B0 : Nat} (hB : w.heap.size ≤ B0) (f : β → List Hs) (g : β → List Nat) : OwnFrom B0 (fun (x : β) W => TopSt w p iv v b2 b3 b5 b6 bg Bs (f x) (g x) W) := fun x W W' row h hg hr => by
 have hG : Grown W W' fun k => row = some k := Grown.of hg fun k _ e => e
 refine h.grown hG (fun k T cs hb e => ?_) (h.bel.trans (hG.to_below (fun k hk e => by have := (hr k e).1; omega) h.bel.size))
 obtain ⟨_, o, ho, hc⟩ := hr k e
 unfold Blk at hb
 rw [hb] at ho
 cases ho
 cases hc
theorem keeps_grown {W W' : World} {S : Nat → Prop} (hg : Grown W W' S) (hs : ∀ k, S k → ∃ T cs, Blk W k T cs) (B : Nat) : KeepsFrom B W W' := ⟨hg.size, fun k o _ hk ho => by
 rw [hg.block k (Array.getElem?_eq_some_iff.1 hk).1 fun hS => ?_]
 ·exact hk
 ·obtain ⟨T, cs, hb⟩ := hs k hS
  unfold Blk at hb
  rw [hb] at hk
  cases hk
  cases ho⟩
theorem Tryz.new24 (w : World) : (Instr.alloc 24 true (.tuple #[])).run Tryz.prog w = .ok (.pointer (some ⟨w.heap.size, 0, none⟩)) (w.alloc (.cells #[.slice none 0 0] 24)) := by kernel_rfl
theorem Tryz.new100 (w : World) : (Instr.alloc 100 true (.tuple #[])).run Tryz.prog w = .ok (.pointer (some ⟨w.heap.size, 0, none⟩)) (w.alloc (.cells #[.slice none 0 0] 100)) := by kernel_rfl
theorem WL.appR {ops : Array Oper} {rest : List Oper} {o : Oper} {a : Act} {w : World} {Q : Exit → Act → World → Prop} (hw : Region.wanted o (yielded ops a.tmps) = true) (s x : Operand)
  (ho : o.op = .call { callee := .builtin .append, args := #[s, x], argTypes := #[24, 24] }) (v vx : Value) (hs : a.eval s = v) (hx : a.eval x = vx) (v' : Value) (w' : World) (hr : (Builtin.append_ #[24, 24] o.type #[v, vx]).run Tryz.prog w = .ok v' w') (h : WL Tryz.prog ops Q rest (a.put o.dst v') w') : WL Tryz.prog ops Q (o :: rest) a w :=
 ⟨wpList_wanted hw fun K hK => by
  unfold Oper.wp execOp
  simp only [ho, resolve, invoke, builtin, Sem.run_bind, Sem.run_pure, Result.andThen_ok, List.map_toArray, List.map_cons, List.map_nil, hs, hx, hr]
  exact hK _ _ h.out⟩
set_option maxRecDepth 8000 in
set_option maxHeartbeats 8000000 in
theorem tops_any (H : List EP) (S : List (Nat × List Nat)) (v : Value) (p mb ub : Nat) (w : World) (hR : PastRd w p H S v mb ub) (gi : Nat) (I : List Nat) (hI : Blk w gi 93 (wdV I).toArray) (hIw : Wds I) (hIl : I.length ≤ 1000000) (hsb : ∀ k, v.ownBlock = some k → k < w.heap.size) (hsl : ∀ i (hi : i < S.length), S[i].2.length ≤ (H.length + 63) / 64) : Calls Tryz.prog 52 #[.pointer (some ⟨p, 0, none⟩), .slice (some ⟨gi, 0, none⟩) I.length I.length] w fun e w' => ∃ v' L', e = .returned v' ∧ OwnH w' v' L' ∧ (∀ k, v'.ownBlock = some k → w.heap.size ≤ k) ∧ L'.Pairwise Lt ∧ (∀ x, x ∈ L' ↔ x ∈ idsT H (tpF S I H.length (List.finRange H.length).reverse).1) ∧ Below w.heap.size w w' := by
 obtain ⟨sa, sc1, rfl⟩ := hR.sl.form
 have HR := Keep.mk hR
 have HIb := Keep.mk hI
 have HIw := Keep.mk hIw
 have HIl := Keep.mk hIl
 have Hsb := Keep.mk hsb
 have Hsl := Keep.mk hsl
 have HSw : Keep (∀ i, Wds (S.getD i (0, [])).2) := ⟨fun i => by
  rw [List.getD_eq_getElem?_getD]
  by_cases hi : i < S.length
  ·rw [List.getElem?_eq_getElem hi]; exact (hR.s i hi).2.1
  ·rw [List.getElem?_eq_none (by omega)]; intro j; simp⟩
 clear hR hI hIw hIl hsb hsl
 refine (callsIn_wide (n := 3)).1 ?_
 refine callsIn_of_wp_marks Tryz.func52 rfl trivial ?_ rfl
 refine wpIn_wide.2 ?_
 simp only [Tryz.ntmps52, List.size_toArray, List.length_cons, List.length_nil, Nat.reduceAdd, Nat.reduceSub, Array.replicate_succ, Array.replicate_zero, List.push_toArray, List.append_toArray, List.nil_append, List.cons_append]
 refine wp_seq_k fun K1 hK1 => rgn ?_
 refine WL.valW (by kernel_rfl) (.pointer (some ⟨w.heap.size, 0, none⟩)) (w.alloc (.cells #[.pointer (some ⟨p, 0, none⟩)] 25)) (by go_simp) ?_
 have H2 := Keep.mk (Blk.new w 25 #[.pointer (some ⟨p, 0, none⟩)])
 have B1 := Keep.mk (below_new w (.cells #[.pointer (some ⟨p, 0, none⟩)] 25))
 generalize w.alloc (.cells #[.pointer (some ⟨p, 0, none⟩)] 25) = w1 at *
 simp only [Act.put, pqA, pqB, pqC]
 refine WL.valW (by kernel_rfl) (.pointer (some ⟨w1.heap.size, 0, none⟩)) (w1.alloc (.cells #[.slice (some ⟨gi, 0, none⟩) I.length I.length] 100)) (by go_simp) ?_
 have H3 := Keep.mk (Blk.new w1 100 #[.slice (some ⟨gi, 0, none⟩) I.length I.length])
 have B2 := Keep.mk (below_new w1 (.cells #[.slice (some ⟨gi, 0, none⟩) I.length I.length] 100))
 generalize w1.alloc (.cells #[.slice (some ⟨gi, 0, none⟩) I.length I.length] 100) = w2 at *
 have H2a := Keep.mk (H2.out.below B2.out H2.out.lt)
 have LB2 := Keep.mk (belowC B1.out B2.out)
 simp only [Act.put, pqA, pqB, pqC]
 refine VlS (.slice none 0 0) ?_
 refine WL.nil (hK1 _ _ ?_)
 refine wp_seq_k fun K2 hK2 => rgn ?_
 refine WL.new (by kernel_rfl) 24 rfl (#[.slice none 0 0]) Tryz.new24 ?_
 obtain ⟨w3, hwn⟩ : ∃ wx, Keep (wx = w2.alloc (.cells (#[.slice none 0 0]) 24)) := ⟨_, ⟨rfl⟩⟩
 rw [← hwn.out]
 have H5 : Keep (Blk w3 w2.heap.size 24 (#[.slice none 0 0])) := ⟨by rw [hwn.out]; exact Blk.new _ _ _⟩
 have B3 : Keep (Below w2.heap.size w2 w3) := ⟨by rw [hwn.out]; exact below_new _ _⟩
 clear hwn
 have H2b := Keep.mk (H2a.out.below B3.out H2a.out.lt)
 have H3b := Keep.mk (H3.out.below B3.out H3.out.lt)
 have LB3 := Keep.mk (belowC LB2.out B3.out)
 have c2 : w3.cell? ⟨w.heap.size, 0, none⟩ = some (.pointer (some ⟨p, 0, none⟩)) := H2b.out.c 0 rfl
 simp only [Act.put, pqA, pqB, pqC]
 refine WL.nil (hK2 _ _ ?_)
 refine wp_seq_k fun K3 hK3 => rgn ?_
 refine VlS (.pointer (some ⟨p, 0, none⟩)) ?_
 refine WL.callF (by kernel_rfl) 18 _ _ rfl Tryz.in18 #[.pointer (some ⟨p, 0, none⟩)] (by simp [Act.eval]) ?_
 refine (plen_any H S _ p mb ub w3 (HR.out.below LB3.out)).mono ?_
 rintro e wz ⟨rfl, hwz⟩
 refine ⟨_, rfl, ?_⟩
 rw [hwz]
 clear hwz c2
 simp only [Act.put, pqA, pqB, pqC]
 refine WL.callF (by kernel_rfl) 57 _ _ rfl Tryz.in57 #[.int .i64 (H.length : Int)] (by simp [Act.eval]) ?_
 refine (room_set H.length w3 (by have := HR.out.n; omega)).mono ?_
 rintro e w4 ⟨rfl, hbk, hb⟩
 refine ⟨_, rfl, ?_⟩
 have Hg := Keep.mk hbk
 have H2c := Keep.mk (H2b.out.below hb H2b.out.lt)
 have H3c := Keep.mk (H3b.out.below hb H3b.out.lt)
 have H5c := Keep.mk (H5.out.below hb H5.out.lt)
 have LB4 := Keep.mk (belowC LB3.out hb)
 clear hbk hb
 simp only [Act.put, pqA, pqB, pqC]
 refine WL.new (by kernel_rfl) 100 rfl (#[.slice none 0 0]) Tryz.new100 ?_
 obtain ⟨w5, hwn⟩ : ∃ wx, Keep (wx = w4.alloc (.cells (#[.slice none 0 0]) 100)) := ⟨_, ⟨rfl⟩⟩
 rw [← hwn.out]
 have H6 : Keep (Blk w5 w4.heap.size 100 (#[.slice none 0 0])) := ⟨by rw [hwn.out]; exact Blk.new _ _ _⟩
 have B5 : Keep (Below w4.heap.size w4 w5) := ⟨by rw [hwn.out]; exact below_new _ _⟩
 clear hwn
 simp only [Act.put, pqA, pqB, pqC]
 have f_o := H6.out.frozen 0
 have c_o : w5.cell? ⟨w4.heap.size, 0, none⟩ = some (.slice none 0 0) := H6.out.c 0 rfl
 refine WL.cell (by kernel_rfl) (w5.setCell ⟨w4.heap.size, 0, none⟩ (.slice (some ⟨w3.heap.size, 0, none⟩) ((H.length + 63) / 64) ((H.length + 63) / 64))) (by go_simp) ?_
 clear f_o c_o
 have G6 : Keep (Grown w5 (w5.setCell ⟨w4.heap.size, 0, none⟩ (.slice (some ⟨w3.heap.size, 0, none⟩) ((H.length + 63) / 64) ((H.length + 63) / 64))) fun k => k = w4.heap.size) := ⟨Grown.setCell w5 _ 0 _ fun _ => rfl⟩
 have H6s : Keep (Blk (w5.setCell ⟨w4.heap.size, 0, none⟩ (.slice (some ⟨w3.heap.size, 0, none⟩) ((H.length + 63) / 64) ((H.length + 63) / 64))) w4.heap.size 100 #[.slice (some ⟨w3.heap.size, 0, none⟩) ((H.length + 63) / 64) ((H.length + 63) / 64)]) := ⟨H6.out.set 0 _⟩
 have B6 : Keep (Below w4.heap.size w4 (w5.setCell ⟨w4.heap.size, 0, none⟩ (.slice (some ⟨w3.heap.size, 0, none⟩) ((H.length + 63) / 64) ((H.length + 63) / 64)))) := ⟨B5.out.trans (G6.out.to_below (fun k hk e => by omega) B5.out.size)⟩
 generalize w5.setCell ⟨w4.heap.size, 0, none⟩ (.slice (some ⟨w3.heap.size, 0, none⟩) ((H.length + 63) / 64) ((H.length + 63) / 64)) = w6 at *
 have H2d := Keep.mk (H2c.out.below B6.out H2c.out.lt)
 have H3d := Keep.mk (H3c.out.below B6.out H3c.out.lt)
 have H5d := Keep.mk (H5c.out.below B6.out H5c.out.lt)
 have Hgd := Keep.mk (Hg.out.below B6.out Hg.out.lt)
 have LB6 := Keep.mk (belowC LB4.out B6.out)
 have hlw4 : Keep (w.heap.size ≤ w4.heap.size) := ⟨LB4.out.size⟩
 clear H6 B5 G6 H2c H3c H5c Hg B6 LB4
 have c2 : w6.cell? ⟨w.heap.size, 0, none⟩ = some (.pointer (some ⟨p, 0, none⟩)) := H2d.out.c 0 rfl
 have cp : w6.cell? ⟨p, 0, none⟩ = some (.slice sa H.length sc1) := (HR.out.below LB6.out).p.c 0 rfl
 simp only [Act.put]
 refine WL.nil (hK3 _ _ ?_)
 refine wp_seq_k fun K4 hK4 => ?_
 refine wp_seq_k fun K5 hK5 => rgn ?_
 refine VlS (.pointer (some ⟨p, 0, none⟩)) ?_
 refine VlS (.pointer (some ⟨p, 0, none⟩)) ?_
 refine VlS (.pointer (some ⟨p, 0, none⟩)) ?_
 refine VlS (.slice sa H.length sc1) ?_
 refine WL.callF (by kernel_rfl) 70 _ _ rfl Tryz.in70 #[.slice sa H.length sc1] (by simp [Act.eval]) ?_
 refine (back_any sa H.length sc1 w6).mono ?_
 rintro e w7 ⟨rfl, hw7⟩
 refine ⟨_, rfl, ?_⟩
 have HBs : Keep (Blk w7 w6.heap.size 23 #[.slice sa H.length sc1]) := ⟨by rw [hw7]; exact Blk.new _ _ _⟩
 have B7 : Keep (Below w6.heap.size w6 w7) := ⟨by rw [hw7]; exact below_new _ _⟩
 clear hw7 c2 cp
 have LB7 := Keep.mk (belowC LB6.out B7.out)
 obtain ⟨b2, hb2⟩ : ∃ b, Keep (b = w.heap.size) := ⟨_, ⟨rfl⟩⟩
 obtain ⟨b3, hb3⟩ : ∃ b, Keep (b = w1.heap.size) := ⟨_, ⟨rfl⟩⟩
 obtain ⟨b5, hb5⟩ : ∃ b, Keep (b = w2.heap.size) := ⟨_, ⟨rfl⟩⟩
 obtain ⟨b6, hb6⟩ : ∃ b, Keep (b = w4.heap.size) := ⟨_, ⟨rfl⟩⟩
 obtain ⟨bg, hbg⟩ : ∃ b, Keep (b = w3.heap.size) := ⟨_, ⟨rfl⟩⟩
 obtain ⟨Bs, hBs⟩ : ∃ b, Keep (b = w6.heap.size) := ⟨_, ⟨rfl⟩⟩
 have LO : Keep (w.heap.size ≤ b3 ∧ w.heap.size ≤ b5 ∧ w.heap.size ≤ b6 ∧ w.heap.size ≤ bg ∧ w.heap.size ≤ Bs) := ⟨by rw [hb3.out, hb5.out, hb6.out, hbg.out, hBs.out]; exact ⟨B1.out.size, LB2.out.size, hlw4.out, LB3.out.size, LB6.out.size⟩⟩
 have TS0 : Keep (TopSt w p (.slice (some ⟨gi, 0, none⟩) I.length I.length) (.slice sa H.length sc1) b2 b3 b5 b6 bg Bs (idsT H (tpF S I H.length []).1) (tpF S I H.length []).2 w7) := ⟨⟨by rw [hb2.out]; exact H2d.out.below B7.out H2d.out.lt, by rw [hb3.out]; exact H3d.out.below B7.out H3d.out.lt, ⟨.slice none 0 0, by rw [hb5.out]; exact H5d.out.below B7.out H5d.out.lt, ownH_nil _, fun k hk => by cases hk⟩, by rw [hb6.out, hbg.out]; have h := H6s.out.below B7.out H6s.out.lt; simpa [tpF] using h, by rw [hbg.out]; exact Hgd.out.below B7.out Hgd.out.lt, by rw [hBs.out]; exact HBs.out, LB7.out⟩⟩
 rw [← hb2.out, ← hb3.out, ← hb5.out, ← hb6.out, ← hbg.out, ← hBs.out]
 clear H2d H3d H5d H6s Hgd HBs B7 LB6
 simp only [Act.put, pqA, pqB, pqC]
 refine WL.nil (hK5 _ _ ?_)
 refine wp_block ?_
 refine (wpIn_wide (n := 3)).1 ?_
 refine wpIn_rangeFunc_ownH rfl (by omega) (gf := 84) (lb := #[.pointer (some ⟨Bs, 0, none⟩)]) rfl trivial (enters_of Tryz.func84 (by kernel_rfl) rfl) (back_stops 2 Bs w.heap.size (.slice sa H.length sc1) H w7 LB7.out.size TS0.out.bs.lt (TS0.out.bs.c 0 rfl) (HR.out.sl.below LB7.out) Hsb.out HR.out.n) (fun h k => h.trans k) (fun W l o o' hl ho h1 h2 => ⟨belowK_b (w := w7) LB7.out.size W l o o' hl ho h1 h2, World.putObj_heap_other (by have := TS0.out.bs.lt; omega)⟩) (Below.refl _ _) (fun _ => rfl) (fun (pre : List (Fin H.length)) W => TopSt w p (.slice (some ⟨gi, 0, none⟩) I.length I.length) (.slice sa H.length sc1) b2 b3 b5 b6 bg Bs (idsT H (tpF S I H.length pre).1) (tpF S I H.length pre).2 W ∧ pre.length ≤ H.length) (fun _ _ _ => False) (fun pre X Y row h hg hr => ⟨TopSt.ownFrom (β := List (Fin H.length)) LB7.out.size (fun pre => idsT H (tpF S I H.length pre).1) (fun pre => (tpF S I H.length pre).2) pre X Y row h.1 hg hr, h.2⟩) (fun _ _ _ _ _ hs _ _ => hs) ⟨TS0.out, Nat.zero_le _⟩ (fun (x : Fin H.length) a' W => ∃ Bx, Blk W Bx 52 (entA H[x.val].1.id.f H[x.val].1.N.au H[x.val].1.N.ck H[x.val].2.1 H[x.val].2.2) ∧ a' = { tmps := #[.pointer (some ⟨p, 0, none⟩), .slice (some ⟨gi, 0, none⟩) I.length I.length, .pointer (some ⟨b2, 0, none⟩), .pointer (some ⟨b3, 0, none⟩), .slice none 0 0, .pointer (some ⟨b5, 0, none⟩), .pointer (some ⟨b6, 0, none⟩), .int .i64 (x.val : Int), .pointer (some ⟨Bx, 0, none⟩), .pointer (some ⟨p, 0, none⟩), .int .i64 (H.length : Int), .slice (some ⟨bg, 0, none⟩) ((H.length + 63) / 64) ((H.length + 63) / 64), .pointer (some ⟨p, 0, none⟩), .pointer (some ⟨p, 0, none⟩), .pointer (some ⟨p, 0, none⟩), .slice sa H.length sc1, .func (.func 84) #[] #[.pointer (some ⟨Bs, 0, none⟩)], .int .i64 (x.val : Int), .agg (entA H[x.val].1.id.f H[x.val].1.N.au H[x.val].1.N.ck H[x.val].2.1 H[x.val].2.2), undef, undef, undef, undef, undef, undef, undef, undef, undef, undef, undef, undef, undef, undef, undef, undef, undef, undef, undef, undef, undef, undef, undef, undef, undef], defers := [] }) (fun x a' _ X Y row hs hg hr => by
  obtain ⟨Bx, h1, h2⟩ := hs
  refine ⟨Bx, (Grown.of hg (S := fun k => row = some k) fun k _ e => e).blk h1 fun e => ?_, h2⟩
  obtain ⟨_, ob, ho, hc⟩ := hr Bx e
  unfold Blk at h1
  rw [h1] at ho
  cases ho
  cases hc) ?assign ?body ?done ?stop
 case assign =>
  rintro l pre x W K hI hK
  simp only [encB, List.zip_toArray, List.zip_cons_cons, List.zip_nil_right, List.zip_nil_left, List.foldl_toArray, List.foldl_cons, List.foldl_nil, List.setIfInBounds_toArray, List.set_cons_zero, List.set_cons_succ]
  refine wpIn_seq_k fun K6 hK6 => ?_
  refine region_in (by kernel_rfl) (fun ⟨_, _, h⟩ => h) (WL.out ?_)
  refine VlS (.int .i64 (x.val : Int)) ?_
  refine WL.nil (hK6 _ _ ?_)
  refine region_in (by kernel_rfl) (fun ⟨_, _, h⟩ => h) (WL.out ?_)
  refine WL.new (by kernel_rfl) 52 rfl (entA (fun _ => 0) 0 0 (.slice none 0 0) (.slice none 0 0)) Tryz.new52 ?_
  obtain ⟨wb, hwn⟩ : ∃ wx, Keep (wx = W.alloc (.cells (entA (fun _ => 0) 0 0 (.slice none 0 0) (.slice none 0 0)) 52)) := ⟨_, ⟨rfl⟩⟩
  rw [← hwn.out]
  have HZ : Keep (Blk wb W.heap.size 52 (entA (fun _ => 0) 0 0 (.slice none 0 0) (.slice none 0 0))) := ⟨by rw [hwn.out]; exact Blk.new _ _ _⟩
  have LB : Keep (Below W.heap.size W wb) := ⟨by rw [hwn.out]; exact below_new _ _⟩
  clear hwn
  simp only [Act.put, pqA, pqB, pqC]
  refine WL.storeR (by kernel_rfl) 52 (.tmp 8) (.tmp 18) rfl W.heap.size (entA H[x.val].1.id.f H[x.val].1.N.au H[x.val].1.N.ck H[x.val].2.1 H[x.val].2.2) rfl rfl 52 _ HZ.out (sizeE _ _ _ _ _) (by rw [entA_size, entA_size]) (entA_one _ _ _ _ _ (by obtain ⟨a, c, e⟩ := (HR.out.nd _ (List.getElem_mem x.isLt)).ps.form; exact (congrArg Value.oneCell' e).trans rfl) (by obtain ⟨a, c, e⟩ := (HR.out.nd _ (List.getElem_mem x.isLt)).ops.form; exact (congrArg Value.oneCell' e).trans rfl)) ?_
  have HX := Keep.mk (HZ.out.setRow (entA H[x.val].1.id.f H[x.val].1.N.au H[x.val].1.N.ck H[x.val].2.1 H[x.val].2.2))
  have LX : Keep (Below W.heap.size W (wb.setRow W.heap.size (entA H[x.val].1.id.f H[x.val].1.N.au H[x.val].1.N.ck H[x.val].2.1 H[x.val].2.2))) := ⟨below_setRow LB.out (Nat.le_refl _) _⟩
  generalize wb.setRow W.heap.size (entA H[x.val].1.id.f H[x.val].1.N.au H[x.val].1.N.ck H[x.val].2.1 H[x.val].2.2) = wx at *
  simp only [Act.put]
  refine WL.nil ?_
  refine hK _ _ (keeps_grown (Grown.below (S := fun _ => False) LX.out) (fun _ h => h.elim) _) ⟨LX.out.mono hI.1.bel.size, LX.out.block _ hI.1.bs.lt⟩ ⟨hI.1.below LX.out, hI.2⟩ ⟨W.heap.size, HX.out, rfl⟩
 case body =>
  rintro l pre ⟨i, hil⟩ a' W hl ⟨r, hr⟩ ⟨hI, hpl⟩ ⟨Bx, hX, rfl⟩ hlt
  show Code.wpIn _ _ _ _ _ { tmps := #[.pointer (some ⟨p, 0, none⟩), .slice (some ⟨gi, 0, none⟩) I.length I.length, .pointer (some ⟨b2, 0, none⟩), .pointer (some ⟨b3, 0, none⟩), .slice none 0 0, .pointer (some ⟨b5, 0, none⟩), .pointer (some ⟨b6, 0, none⟩), .int .i64 (i : Int), .pointer (some ⟨Bx, 0, none⟩), .pointer (some ⟨p, 0, none⟩), .int .i64 (H.length : Int), .slice (some ⟨bg, 0, none⟩) ((H.length + 63) / 64) ((H.length + 63) / 64), .pointer (some ⟨p, 0, none⟩), .pointer (some ⟨p, 0, none⟩), .pointer (some ⟨p, 0, none⟩), .slice sa H.length sc1, .func (.func 84) #[] #[.pointer (some ⟨Bs, 0, none⟩)], .int .i64 (i : Int), .agg (entA H[i].1.id.f H[i].1.N.au H[i].1.N.ck H[i].2.1 H[i].2.2), undef, undef, undef, undef, undef, undef, undef, undef, undef, undef, undef, undef, undef, undef, undef, undef, undef, undef, undef, undef, undef, undef, undef, undef, undef], defers := [] } W
  obtain ⟨T, hT⟩ : ∃ T, Keep (tpF S I H.length pre = T) := ⟨_, ⟨rfl⟩⟩
  rw [hT.out] at hI
  have hok := tpF_ok HSw.out I H.length pre
  rw [hT.out] at hok
  have Hok := Keep.mk hok
  have HT := Keep.mk hI
  have HX : Keep (Blk W Bx 52 (entA H[i].1.id.f H[i].1.N.au H[i].1.N.ck H[i].2.1 H[i].2.2)) := ⟨hX⟩
  clear hI hX hok
  have hiS : i < S.length := by rw [HR.out.len]; exact hil
  have hil' : (i : Int) < (H.length : Int) := by omega
  have hi0 : (0 : Int) ≤ (i : Int) := by omega
  have RW := Keep.mk (HR.out.below HT.out.bel)
  have IW := Keep.mk (HIb.out.below HT.out.bel HIb.out.lt)
  have hfin : ∀ (a'' : Act) (W' : World), KeepsFrom w7.heap.size W W' → KpB w.heap.size Bs W W' → TopSt w p (.slice (some ⟨gi, 0, none⟩) I.length I.length) (.slice sa H.length sc1) b2 b3 b5 b6 bg Bs (idsT H (stT S I T i).1) (stT S I T i).2 W' → Exit.inBlock 1 (ownPostG w7.heap.size (KpB w.heap.size Bs) (fun (pre : List (Fin H.length)) W => TopSt w p (.slice (some ⟨gi, 0, none⟩) I.length I.length) (.slice sa H.length sc1) b2 b3 b5 b6 bg Bs (idsT H (tpF S I H.length pre).1) (tpF S I H.length pre).2 W ∧ pre.length ≤ H.length) (fun _ _ _ => False) (pre ++ [⟨i, hil⟩]) W) .normal a'' W' := fun a'' W' h1 h2 h3 => ⟨h1, h2, by rw [tpF_snoc, hT.out]; exact h3, by rw [List.length_append, List.length_singleton]; omega⟩
  refine wpIn_block ?_
  refine wpIn_seq_k fun K6 hK6 => ?_
  have c3 : W.cell? ⟨b3, 0, none⟩ = some (.slice (some ⟨gi, 0, none⟩) I.length I.length) := HT.out.i3.c 0 rfl
  have c6 : W.cell? ⟨b6, 0, none⟩ = some (.slice (some ⟨bg, 0, none⟩) T.2.length T.2.length) := HT.out.s6.c 0 rfl
  rcases Bool.eq_false_or_eq_true (hasW I i) with hI1 | hI1
  ·rcases Bool.eq_false_or_eq_true (hasW T.2 i) with hI2 | hI2
   ·refine region_in (by kernel_rfl) (fun ⟨_, _, h⟩ => h) (WL.out ?_)
    refine VlS (.slice (some ⟨gi, 0, none⟩) I.length I.length) ?_
    refine VlS (.int .i64 (i : Int)) ?_
    refine WL.callF (by kernel_rfl) 54 _ _ rfl Tryz.in54 #[.slice (some ⟨gi, 0, none⟩) I.length I.length, .int .i64 (i : Int)] (by simp [Act.eval]) ?_
    refine ((by have h := has_set gi i I W IW.out (by have := HR.out.n; omega) HIl.out HIw.out; rw [hI1] at h; exact h : Calls Tryz.prog 54 #[.slice (some ⟨gi, 0, none⟩) I.length I.length, .int .i64 (i : Int)] W _)).mono ?_
    rintro e wq ⟨rfl, hwq⟩
    refine ⟨_, rfl, ?_⟩
    rw [hwq]
    clear hwq
    simp only [Act.put, pqA, pqB, pqC]
    refine VbT ?_
    refine VlS (.slice (some ⟨bg, 0, none⟩) T.2.length T.2.length) ?_
    refine VlS (.int .i64 (i : Int)) ?_
    refine WL.callF (by kernel_rfl) 54 _ _ rfl Tryz.in54 #[.slice (some ⟨bg, 0, none⟩) T.2.length T.2.length, .int .i64 (i : Int)] (by simp [Act.eval]) ?_
    refine ((by have h := has_set bg i T.2 W HT.out.sg (by have := HR.out.n; omega) (by rw [Hok.out.1]; have := HR.out.n; omega) Hok.out.2.1; rw [hI2] at h; exact h : Calls Tryz.prog 54 #[.slice (some ⟨bg, 0, none⟩) T.2.length T.2.length, .int .i64 (i : Int)] W _)).mono ?_
    rintro e wq ⟨rfl, hwq⟩
    refine ⟨_, rfl, ?_⟩
    rw [hwq]
    clear hwq
    simp only [Act.put, pqA, pqB, pqC]
    refine VbF ?_
    refine VbF ?_
    refine WL.nil (hK6 _ _ ?_)
    refine wpIn_cond_false rfl ?_
    refine wpIn_skip ?_
    have hst : stT S I T i = T := by unfold stT; rw [if_neg (fun h => by rw [hI2] at h; cases h.2)]
    exact hfin _ W (KeepsFrom.refl _ _) (KpB.refl _ _ _) (by rw [hst]; exact HT.out)
   ·refine region_in (by kernel_rfl) (fun ⟨_, _, h⟩ => h) (WL.out ?_)
    refine VlS (.slice (some ⟨gi, 0, none⟩) I.length I.length) ?_
    refine VlS (.int .i64 (i : Int)) ?_
    refine WL.callF (by kernel_rfl) 54 _ _ rfl Tryz.in54 #[.slice (some ⟨gi, 0, none⟩) I.length I.length, .int .i64 (i : Int)] (by simp [Act.eval]) ?_
    refine ((by have h := has_set gi i I W IW.out (by have := HR.out.n; omega) HIl.out HIw.out; rw [hI1] at h; exact h : Calls Tryz.prog 54 #[.slice (some ⟨gi, 0, none⟩) I.length I.length, .int .i64 (i : Int)] W _)).mono ?_
    rintro e wq ⟨rfl, hwq⟩
    refine ⟨_, rfl, ?_⟩
    rw [hwq]
    clear hwq
    simp only [Act.put, pqA, pqB, pqC]
    refine VbT ?_
    refine VlS (.slice (some ⟨bg, 0, none⟩) T.2.length T.2.length) ?_
    refine VlS (.int .i64 (i : Int)) ?_
    refine WL.callF (by kernel_rfl) 54 _ _ rfl Tryz.in54 #[.slice (some ⟨bg, 0, none⟩) T.2.length T.2.length, .int .i64 (i : Int)] (by simp [Act.eval]) ?_
    refine ((by have h := has_set bg i T.2 W HT.out.sg (by have := HR.out.n; omega) (by rw [Hok.out.1]; have := HR.out.n; omega) Hok.out.2.1; rw [hI2] at h; exact h : Calls Tryz.prog 54 #[.slice (some ⟨bg, 0, none⟩) T.2.length T.2.length, .int .i64 (i : Int)] W _)).mono ?_
    rintro e wq ⟨rfl, hwq⟩
    refine ⟨_, rfl, ?_⟩
    rw [hwq]
    clear hwq
    simp only [Act.put, pqA, pqB, pqC]
    refine VbT ?_
    refine VbT ?_
    refine WL.nil (hK6 _ _ ?_)
    refine wpIn_cond_true rfl ?_
    refine wpIn_seq_k fun K7 hK7 => ?_
    clear c3 c6
    obtain ⟨u, hu5, huo, hul⟩ := HT.out.l5
    have Hu5 := Keep.mk hu5
    have Huo := Keep.mk huo
    have Hul := Keep.mk hul
    obtain ⟨ua, uc, hus⟩ := huo.sl
    subst hus
    clear hu5 huo hul
    have c5 : W.cell? ⟨b5, 0, none⟩ = some (.slice ua (idsT H T.1).length uc) := Hu5.out.c 0 rfl
    have hid : Keep (idAt H i = H[i].1.id) := ⟨by unfold idAt; rw [exs_get? H i hil, Option.getD_some]⟩
    refine region_in (by kernel_rfl) (fun ⟨_, _, h⟩ => h) (WL.out ?_)
    refine VlS (.slice ua (idsT H T.1).length uc) ?_
    refine VlS (.pointer (some ⟨Bx, 0, none⟩)) ?_
    refine WL.midA (by kernel_rfl) 36 (.tmp 29) rfl Bx 0 rfl (bytesA 32 (idAt H i).f) _ (by rw [hid.out]; exact ent_range_id (blk_range HX.out)) Tryz.underlying36 rfl (size36E _) ?_
    simp only [Act.put, pqA, pqB, pqC]
    refine WL.bs (by kernel_rfl) 24 1 _ rfl #[(0, .agg (bytesA 32 (idAt H i).f))] (by simp [Act.eval]) _ _ (bsH (idAt H i) W) ?_
    obtain ⟨wf, hwf⟩ : ∃ wx, Keep (wx = W.alloc (.cells (bytesA 32 (idAt H i).f) 36)) := ⟨_, ⟨rfl⟩⟩
    rw [← hwf.out]
    have Hf : Keep (Blk wf W.heap.size 36 (bytesA 32 (idAt H i).f)) := ⟨by rw [hwf.out]; exact Blk.new _ _ _⟩
    have LBf : Keep (Below W.heap.size W wf) := ⟨by rw [hwf.out]; exact below_new _ _⟩
    clear hwf c5
    have Huf := Keep.mk (Huo.out.below LBf.out)
    simp only [Act.put, pqA, pqB, pqC]
    obtain ⟨u2, wg, hrun, hown, hgr, hmv⟩ := run_appH wf 24 _ (idsT H T.1) Huf.out W.heap.size (idAt H i) Hf.out (by rw [idsT, List.length_map]; have := Hok.out.2.2; have := HR.out.n; omega)
    refine WL.appR (by kernel_rfl) (.tmp 28) (.tmp 31) rfl _ _ rfl rfl _ _ hrun ?_
    have Hgr := Keep.mk hgr
    have Hown := Keep.mk hown
    have Hmv := Keep.mk hmv
    obtain ⟨va, vc, hvs⟩ := hown.sl
    subst hvs
    clear hrun hown hgr hmv
    have GW2 : Keep (Grown W wg fun k => (Value.slice ua (idsT H T.1).length uc).ownBlock = some k) := ⟨(Grown.below LBf.out).trans Hgr.out⟩
    have H5g : Keep (Blk wg b5 24 #[.slice ua (idsT H T.1).length uc]) := ⟨GW2.out.blk Hu5.out fun e => absurd ((Huo.out.typ e).one Hu5.out.typ) (by decide)⟩
    have f_o := H5g.out.frozen 0
    have c_o : wg.cell? ⟨b5, 0, none⟩ = some (.slice ua (idsT H T.1).length uc) := H5g.out.c 0 rfl
    simp only [Act.put, pqA, pqB, pqC]
    refine WL.cell (by kernel_rfl) (wg.setCell ⟨b5, 0, none⟩ (.slice va (idsT H T.1 ++ [idAt H i]).length vc)) (by go_simp) ?_
    clear f_o c_o
    have G3 : Keep (Grown wg (wg.setCell ⟨b5, 0, none⟩ (.slice va (idsT H T.1 ++ [idAt H i]).length vc)) fun k => k = b5) := ⟨Grown.setCell wg _ 0 _ fun _ => rfl⟩
    have H5h : Keep (Blk (wg.setCell ⟨b5, 0, none⟩ (.slice va (idsT H T.1 ++ [idAt H i]).length vc)) b5 24 #[.slice va (idsT H T.1 ++ [idAt H i]).length vc]) := ⟨H5g.out.set 0 _⟩
    generalize wg.setCell ⟨b5, 0, none⟩ (.slice va (idsT H T.1 ++ [idAt H i]).length vc) = wh_ at *
    have Hoh : Keep (OwnH wh_ (.slice va (idsT H T.1 ++ [idAt H i]).length vc) (idsT H T.1 ++ [idAt H i])) := ⟨Hown.out.grown G3.out fun k hk e => by subst e; exact absurd ((Hown.out.typ hk).one H5g.out.typ) (by decide)⟩
    have GWh : Keep (Grown W wh_ fun k => (Value.slice ua (idsT H T.1).length uc).ownBlock = some k ∨ k = b5) := ⟨(GW2.out.mono fun k _ e => .inl e).trans (G3.out.mono fun k _ e => .inr e)⟩
    have nk : Keep (∀ k TT cs, Blk W k TT cs → TT ≠ 36 → TT ≠ 24 → Blk wh_ k TT cs) := ⟨fun k TT cs hb h1 h2 => GWh.out.blk hb fun e => e.elim (fun e => h1 (hb.typ.one (Huo.out.typ e))) (fun e => by subst e; exact h2 (hb.typ.one Hu5.out.typ))⟩
    have BWh : Keep (Below w.heap.size W wh_) := ⟨GWh.out.to_below (fun k hk e => e.elim (fun e => by have := Hul.out k e; omega) (fun e => by have := LO.out.2.1; omega)) HT.out.bel.size⟩
    have RWh := Keep.mk (HR.out.below (HT.out.bel.trans BWh.out))
    simp only [Act.put]
    refine WL.nil (hK7 _ _ ?_)
    have hS0 : Keep ((fun wz => wz.cell? ⟨b6, 0, none⟩ = some (.slice (some ⟨bg, 0, none⟩) T.2.length T.2.length) ∧ wz.cell? ⟨b2, 0, none⟩ = some (.pointer (some ⟨p, 0, none⟩)) ∧ wz.cell? ⟨p, 2, none⟩ = some (.slice (some ⟨ub, 0, none⟩) H.length H.length) ∧ wz.cell? ⟨ub, i, none⟩ = some (.slice (some ⟨S[i].1, 0, none⟩) S[i].2.length S[i].2.length)) wh_.drew) := ⟨⟨(nk.out _ _ _ HT.out.s6 (by decide) (by decide)).drew.c 0 rfl, (nk.out _ _ _ HT.out.p2 (by decide) (by decide)).drew.c 0 rfl, RWh.out.p.drew.c 2 rfl, RWh.out.u i hiS⟩⟩
    refine region_in_held (S := fun wz => wz.cell? ⟨b6, 0, none⟩ = some (.slice (some ⟨bg, 0, none⟩) T.2.length T.2.length) ∧ wz.cell? ⟨b2, 0, none⟩ = some (.pointer (some ⟨p, 0, none⟩)) ∧ wz.cell? ⟨p, 2, none⟩ = some (.slice (some ⟨ub, 0, none⟩) H.length H.length) ∧ wz.cell? ⟨ub, i, none⟩ = some (.slice (some ⟨S[i].1, 0, none⟩) S[i].2.length S[i].2.length)) (by kernel_rfl) (by kernel_rfl) (fun ⟨_, _, h⟩ => h) (hS0.out) (fun hHeld => ?_)
    refine tkS (i := 0) (oi := ⟨some 33, Op.load 100 (Operand.tmp 6), 100, _, _, none⟩) (v := .slice (some ⟨bg, 0, none⟩) T.2.length T.2.length) rfl (Or.inl ⟨by rfl, fun w hS => by obtain ⟨hS1, hS2, hS3, hS4⟩ := hS; go_simp⟩) hHeld ?_
    refine tkS (i := 1) (oi := ⟨some 34, Op.load 25 (Operand.tmp 2), 25, _, _, none⟩) (v := .pointer (some ⟨p, 0, none⟩)) rfl (Or.inl ⟨by rfl, fun w hS => by obtain ⟨hS1, hS2, hS3, hS4⟩ := hS; go_simp⟩) hHeld ?_
    refine tkS (i := 2) (oi := ⟨some 35, Op.nilCheck (Operand.tmp 34), 0, _, _, none⟩) (v := .pointer (some ⟨p, 0, none⟩)) rfl (Or.inl ⟨by rfl, fun w hS => by obtain ⟨hS1, hS2, hS3, hS4⟩ := hS; go_simp⟩) hHeld ?_
    refine tkS (i := 3) (oi := ⟨some 36, Op.fieldAddr 83 (Operand.tmp 35) 2, 0, _, _, none⟩) (v := .pointer (some ⟨p, 2, none⟩)) rfl (Or.inl ⟨by rfl, fun w hS => by obtain ⟨hS1, hS2, hS3, hS4⟩ := hS; go_simp⟩) hHeld ?_
    refine tkS (i := 4) (oi := ⟨some 37, Op.load 81 (Operand.tmp 36), 81, _, _, none⟩) (v := .slice (some ⟨ub, 0, none⟩) H.length H.length) rfl (Or.inl ⟨by rfl, fun w hS => by obtain ⟨hS1, hS2, hS3, hS4⟩ := hS; go_simp⟩) hHeld ?_
    refine tkS (i := 5) (oi := ⟨some 38, Op.move (Operand.tmp 7), 3, _, _, none⟩) (v := .int .i64 (i : Int)) rfl (Or.inl ⟨by rfl, fun w hS => by obtain ⟨hS1, hS2, hS3, hS4⟩ := hS; go_simp⟩) hHeld ?_
    refine tkS (i := 6) (oi := ⟨some 39, Op.indexAddr 81 (Operand.tmp 37) (Operand.tmp 38), 0, _, _, none⟩) (v := .pointer (some ⟨ub, i, none⟩)) rfl (Or.inl ⟨by rfl, fun w hS => by obtain ⟨hS1, hS2, hS3, hS4⟩ := hS; go_simp⟩) hHeld ?_
    refine tkS (i := 7) (oi := ⟨some 40, Op.load 100 (Operand.tmp 39), 100, _, _, none⟩) (v := .slice (some ⟨S[i].1, 0, none⟩) S[i].2.length S[i].2.length) rfl (Or.inl ⟨by rfl, fun w hS => by obtain ⟨hS1, hS2, hS3, hS4⟩ := hS; go_simp⟩) hHeld ?_
    refine wpAnyH_ready (rs := [8]) (by kernel_rfl) (by simp) ?_
    refine AllReadyH.cons (o := ⟨some 41, Op.call { callee := Callee.value (Operand.func 59), args := #[Operand.tmp 33, Operand.tmp 40], argTypes := #[100, 100] }, 0, _, _, none⟩) rfl (fun K hK => ?_) AllReadyH.nil
    rw [if_pos (by rfl)]
    refine wp_callF 59 _ _ rfl Tryz.in59 #[.slice (some ⟨bg, 0, none⟩) T.2.length T.2.length, .slice (some ⟨S[i].1, 0, none⟩) S[i].2.length S[i].2.length] (by simp [Act.eval]) (fun uu w' => uu = .tuple #[] ∧ Blk w' bg 93 (wdV (joinW T.2 S[i].2)).toArray ∧ Grown wh_.drew w' fun k => k = bg) ((join_any bg S[i].1 T.2 S[i].2 wh_.drew (nk.out _ _ _ HT.out.sg (by decide) (by decide)).drew (RWh.out.s i hiS).1.drew (fun hc => by have h1 := (HR.out.s i hiS).1.lt; have h2 := LO.out.2.2.2.1; omega) (by rw [Hok.out.1]; have := Hsl.out i hiS; omega) (by rw [Hok.out.1]; have := HR.out.n; omega) Hok.out.2.1 (RWh.out.s i hiS).2.1).mono fun e w' h => ⟨_, h.1, rfl, h.2⟩) ?_
    rintro _ we ⟨rfl, hbe, hge⟩
    have Hbe := Keep.mk hbe
    have GWe : Keep (Grown W we fun k => ((Value.slice ua (idsT H T.1).length uc).ownBlock = some k ∨ k = b5) ∨ k = bg) := ⟨(GWh.out.mono fun k _ e => .inl e).trans ((((Grown.refl wh_ _).drew).trans hge).mono fun k _ e => .inr e)⟩
    have Ghe : Keep (Grown wh_ we fun k => k = bg) := ⟨((Grown.refl wh_ _).drew).trans hge⟩
    refine hK _ _ ⟨hge.cell hS0.out.1 (fun e => by subst e; exact absurd (blk_type HT.out.s6 HT.out.sg) (by decide)), ?_, ?_, ?_⟩ fun hH9 => ?_
    ·exact hge.cell (hS0.out.2.1) (fun e => by subst e; exact absurd (blk_type HT.out.p2 HT.out.sg) (by decide))
    ·exact hge.cell (hS0.out.2.2.1) (fun e => by have := RWh.out; have h1 := HR.out.p.lt; have h2 := LO.out.2.2.2.1; omega)
    ·exact hge.cell (hS0.out.2.2.2) (fun e => by have h1 := cell_lt (HR.out.u i hiS); have h2 := LO.out.2.2.2.1; omega)
    clear hK hbe hge hS0
    simp only [Act.put, pqA, pqB, pqC]
    refine wpAnyH_done (by kernel_rfl) ?_ _
    have hst : stT S I T i = (T.1 ++ [i], joinW T.2 S[i].2) := by unfold stT; rw [if_pos ⟨hI1, hI2⟩, List.getD_eq_getElem?_getD, List.getElem?_eq_getElem hiS]; rfl
    have hcells : ∀ k, ((Value.slice ua (idsT H T.1).length uc).ownBlock = some k ∨ k = b5) ∨ k = bg → ∃ TT cs, Blk W k TT cs := fun k hk => by
     rcases hk with (hk | rfl) | rfl
     ·rcases Huo.out.form with ⟨he, _⟩ | ⟨g, cap, cur, he, h4, _⟩
      ·rw [he] at hk; cases hk
      ·rw [he] at hk; cases hk; exact ⟨_, _, h4⟩
     ·exact ⟨_, _, Hu5.out⟩
     ·exact ⟨_, _, HT.out.sg⟩
    have hbelow : Below w.heap.size W we := GWe.out.to_below (fun k hk e => by
     rcases e with (e | e) | e
     ·have := Hul.out k e; omega
     ·have := LO.out.2.1; omega
     ·have := LO.out.2.2.2.1; omega) HT.out.bel.size
    have nke : ∀ k TT cs, Blk W k TT cs → TT ≠ 36 → TT ≠ 24 → TT ≠ 93 → Blk we k TT cs := fun k TT cs hb h1 h2 h3 => Ghe.out.blk (nk.out k TT cs hb h1 h2) fun e => by subst e; exact h3 (hb.typ.one HT.out.sg.typ)
    refine hfin _ we (keeps_grown GWe.out hcells _) ⟨hbelow, GWe.out.block Bs HT.out.bs.lt fun e => ?_⟩ ?_
    ·rcases e with (e | e) | e
     ·exact absurd ((Huo.out.typ e).one HT.out.bs.typ) (by decide)
     ·have h := HT.out.bs.typ; rw [e] at h; exact absurd (Hu5.out.typ.one h) (by decide)
     ·have h := HT.out.bs.typ; rw [e] at h; exact absurd (HT.out.sg.typ.one h) (by decide)
    ·rw [hst]
     refine ⟨nke _ _ _ HT.out.p2 (by decide) (by decide) (by decide), nke _ _ _ HT.out.i3 (by decide) (by decide) (by decide), ⟨.slice va (idsT H T.1 ++ [idAt H i]).length vc, Ghe.out.blk H5h.out (fun e => by subst e; exact absurd (Hu5.out.typ.one HT.out.sg.typ) (by decide)), ?_, ?_⟩, ?_, Hbe.out, nke _ _ _ HT.out.bs (by decide) (by decide) (by decide), HT.out.bel.trans hbelow⟩
     ·have h := Hoh.out.grown Ghe.out fun k hk e => by subst e; exact absurd ((Hoh.out.typ hk).one (nk.out _ _ _ HT.out.sg (by decide) (by decide)).typ) (by decide)
      simpa [idsT] using h
     ·intro k hk
      rcases Nat.lt_or_ge k wf.heap.size with h | h
      ·exact Hul.out k (Hmv.out.old h hk)
      ·exact Nat.le_trans HT.out.bel.size (Nat.le_trans LBf.out.size h)
     ·have h := nke _ _ _ HT.out.s6 (by decide) (by decide) (by decide)
      simpa [joinW_len] using h
  ·refine region_in (by kernel_rfl) (fun ⟨_, _, h⟩ => h) (WL.out ?_)
   refine VlS (.slice (some ⟨gi, 0, none⟩) I.length I.length) ?_
   refine VlS (.int .i64 (i : Int)) ?_
   refine WL.callF (by kernel_rfl) 54 _ _ rfl Tryz.in54 #[.slice (some ⟨gi, 0, none⟩) I.length I.length, .int .i64 (i : Int)] (by simp [Act.eval]) ?_
   refine ((by have h := has_set gi i I W IW.out (by have := HR.out.n; omega) HIl.out HIw.out; rw [hI1] at h; exact h : Calls Tryz.prog 54 #[.slice (some ⟨gi, 0, none⟩) I.length I.length, .int .i64 (i : Int)] W _)).mono ?_
   rintro e wq ⟨rfl, hwq⟩
   refine ⟨_, rfl, ?_⟩
   rw [hwq]
   clear hwq
   simp only [Act.put, pqA, pqB, pqC]
   refine VbF ?_
   refine SkS ?_
   refine SkS ?_
   refine SkS ?_
   refine SkS ?_
   refine VbF ?_
   refine WL.nil (hK6 _ _ ?_)
   refine wpIn_cond_false rfl ?_
   refine wpIn_skip ?_
   have hst : stT S I T i = T := by unfold stT; rw [if_neg (fun h => by rw [hI1] at h; cases h.1)]
   exact hfin _ W (KeepsFrom.refl _ _) (KpB.refl _ _ _) (by rw [hst]; exact HT.out)
 case done =>
  rintro D xs W hD rfl ⟨hI, -⟩ hKd
  have HT := Keep.mk hI
  clear hI
  obtain ⟨u, hu5, huo, hul⟩ := HT.out.l5
  obtain ⟨ua, uc, hus⟩ := huo.sl
  subst hus
  have Huo := Keep.mk huo
  clear huo hul
  obtain ⟨L, hL⟩ : ∃ L, Keep (idsT H (tpF S I H.length (List.finRange H.length).reverse).1 = L) := ⟨_, ⟨rfl⟩⟩
  rw [hL.out] at Huo hu5
  have c5 : W.cell? ⟨b5, 0, none⟩ = some (.slice ua L.length uc) := hu5.c 0 rfl
  clear hu5
  show Exit.inBlock 0 (Exit.then _ _) .normal _ _
  refine hK4 _ _ ?_
  refine wp_seq_k fun K6 hK6 => rgn ?_
  refine VlS (.slice ua L.length uc) ?_
  refine WL.callF (by kernel_rfl) 71 _ _ rfl Tryz.in71 #[.slice ua L.length uc] (by simp [Act.eval]) ?_
  refine (sort_any _ L W Huo.out.row (by rw [← hL.out, idsT, List.length_map]; have h := (tpF_ok HSw.out I H.length (List.finRange H.length).reverse).2.2; rw [List.length_reverse, List.length_finRange] at h; have := HR.out.n; omega)).mono ?_
  rintro e wy ⟨vz, LL, rfl, hown, hpw, hmm, hll, hbz⟩
  refine ⟨_, rfl, ?_⟩
  clear c5
  simp only [Act.put, pqA, pqB, pqC]
  refine VlS (vz) ?_
  refine WL.nil (hK6 _ _ ?_)
  refine wp_ret ?_
  refine ⟨by simp, .inl ⟨_, _, rfl, run_takeDeferred ((hbz.block D (Array.getElem?_eq_some_iff.1 hKd).1).trans hKd), ?_⟩⟩
  have hKy : wy.heap[D]? = some (.deferred (some [])) := (hbz.block D (Array.getElem?_eq_some_iff.1 hKd).1).trans hKd
  have hDw : w.heap.size ≤ D := Nat.le_trans LB7.out.size hD
  have hgD : Grown wy (wy.putObj D (.deferred none)) fun k => k = D := Grown.of (grownBy_putObj' wy D _) fun k _ e => by cases e; rfl
  have hby : Below w.heap.size w wy := belowC HT.out.bel hbz
  refine ⟨_, results_tmp rfl _ _ _, vz, LL, rfl, (OwnH.of hown).grown hgD fun k hk e => ?_, fun k hk => Nat.le_trans HT.out.bel.size (ownsH_block hown k hk), hpw, fun y => by rw [hmm y, hL.out], hby.trans (hgD.to_below (fun k hk e => by omega) hby.size)⟩
  rcases (OwnH.of hown).form with ⟨he, _⟩ | ⟨g, cap, cur, he, h4, _⟩
  ·rw [he] at hk; cases hk
  ·rw [he] at hk
   cases hk
   subst e
   unfold Blk at h4
   rw [h4] at hKy
   cases hKy
 case stop =>
  rintro D c pre W _ _ h _
  exact h.elim
set_option maxRecDepth 8000 in
set_option maxHeartbeats 1000000 in
theorem heads_past (H : List EP) (S : List (Nat × List Nat)) (v : Value) (p mb ub : Nat) (w : World) (hR : PastRd w p H S v mb ub) (hsb : ∀ k, v.ownBlock = some k → k < w.heap.size) (hsl : ∀ i (hi : i < S.length), S[i].2.length ≤ (H.length + 63) / 64) : Calls Tryz.prog 24 #[.pointer (some ⟨p, 0, none⟩)] w fun e w' => ∃ v' L', e = .returned v' ∧ OwnH w' v' L' ∧ (∀ k, v'.ownBlock = some k → w.heap.size ≤ k) ∧ L'.Pairwise Lt ∧ (∀ x, x ∈ L' ↔ x ∈ idsT H (tpF S (wh H.length H.length) H.length (List.finRange H.length).reverse).1) ∧ Below w.heap.size w w' := by
 have HR := Keep.mk hR
 have Hsb := Keep.mk hsb
 have Hsl := Keep.mk hsl
 clear hR hsb hsl
 go_enter Tryz.func24, Tryz.ntmps24
 refine wp_seq_k fun K1 hK1 => rgn ?_
 refine VlS (.slice none 0 0) ?_
 refine WL.nil (hK1 _ _ ?_)
 refine wp_seq_k fun K2 hK2 => rgn ?_
 refine VlS (.pointer (some ⟨p, 0, none⟩)) ?_
 refine VlS (.pointer (some ⟨p, 0, none⟩)) ?_
 refine WL.callF (by kernel_rfl) 53 _ _ rfl Tryz.in53 #[.pointer (some ⟨p, 0, none⟩)] (by simp [Act.eval]) ?_
 refine (whole_any H S v p mb ub w HR.out).mono ?_
 rintro e w1 ⟨rfl, hbk, hb⟩
 refine ⟨_, rfl, ?_⟩
 have HB := Keep.mk hbk
 have LB := Keep.mk hb
 clear hbk hb
 simp only [Act.put, pqA, pqB, pqC]
 refine WL.callF (by kernel_rfl) 52 _ _ rfl Tryz.in52 #[.pointer (some ⟨p, 0, none⟩), .slice (some ⟨w.heap.size, 0, none⟩) (wh H.length H.length).length (wh H.length H.length).length] (by simp [Act.eval]) ?_
 refine (tops_any H S v p mb ub w1 (HR.out.below LB.out) w.heap.size (wh H.length H.length) HB.out (wh_wds _ _) (by rw [wh_len]; have := HR.out.n; omega) (fun k hk => Nat.lt_of_lt_of_le (Hsb.out k hk) LB.out.size) Hsl.out).mono ?_
 rintro e w2 ⟨v', L', rfl, h1, h2, h3, h4, h5⟩
 refine ⟨_, rfl, ?_⟩
 simp only [Act.put, pqA, pqB, pqC]
 refine VlS (v') ?_
 refine WL.nil (hK2 _ _ ?_)
 refine wp_ret ?_
 go_ret
 exact ⟨_, L', rfl, h1, fun k hk => Nat.le_trans LB.out.size (h2 k hk), h3, h4, belowC LB.out h5⟩
def hOne : Hs := Vector.ofFn fun i : Fin 32 => if i.val = 0 then 1 else 0
def hTwo : Hs := Vector.ofFn fun i : Fin 32 => if i.val = 0 then 2 else 0
theorem bOne : Tryz.prog.built 36 [(0, .int .u8 1)] = some (bytesA 32 hOne.f) := by kernel_rfl
theorem bTwo : Tryz.prog.built 36 [(0, .int .u8 2)] = some (bytesA 32 hTwo.f) := by kernel_rfl
def aE : EX := ⟨hTwo, ⟨1, 1, [], []⟩⟩
def bE : EX := ⟨hOne, ⟨2, 2, [hTwo], []⟩⟩
theorem two_al : ∀ i, i < ([bE, aE] : List EX).length → al1 [bE, aE] i = 0
 | 0, _ => by decide
 | 1, _ => by decide
 | i + 2, h => by simp only [List.length_cons, List.length_nil] at h; omega
theorem two_tg : ∀ i, i < ([bE, aE] : List EX).length → tg1 [bE, aE] i = 0
 | 0, _ => by decide
 | 1, _ => by decide
 | i + 2, h => by simp only [List.length_cons, List.length_nil] at h; omega
theorem two_ex {H : List EX} (one : OneO (parH ([bE, aE].map vxE)) (idsE H)) (mem : ∀ x, x ∈ idsE H ↔ x ∈ idsE [bE, aE]) (sub : ∀ x ∈ H, x ∈ [bE, aE]) (len : H.length = 2) : H = [aE, bE] := by
 obtain ⟨x, y, rfl⟩ : ∃ x y, H = [x, y] := by
  match H, len with
  | [x, y], _ => exact ⟨x, y, rfl⟩
 have hx := sub x (by simp)
 have hy := sub y (by simp)
 have hnd : x.id ≠ y.id := by have := one.nd; simpa [idsE] using this
 have hpar : parH ([bE, aE].map vxE) hOne = [hTwo] := by decide
 rcases List.mem_cons.1 hx with rfl | hx
 ·exfalso
  rcases List.mem_cons.1 hy with rfl | hy
  ·exact hnd rfl
  ·rw [List.mem_singleton.1 hy] at one
   have := one.top 0 1 hOne hTwo rfl rfl (by rw [hpar]; simp)
   omega
 ·rw [List.mem_singleton.1 hx] at hnd ⊢
  rcases List.mem_cons.1 hy with rfl | hy
  ·rfl
  ·rw [List.mem_singleton.1 hy] at hnd; exact absurd rfl hnd
theorem two_und {H : List EP} {S : List (Nat × List Nat)} (hH : exs H = [aE, bE]) (sl : S.length = H.length) (und : ∀ i (hi : i < S.length), S[i].2 = undF (S.map (·.2)) i ((((exs H)[i]?).getD dEX).N.ps.map (ixH (idsE (exs H)))) ∧ i < H.length ∧ Wds S[i].2) : S.map (·.2) = [[1], [3]] := by
 have hl : H.length = 2 := by rw [← exs_len, hH]; rfl
 obtain ⟨x, y, rfl⟩ : ∃ x y, S = [x, y] := by
  match S, (by rw [sl, hl] : S.length = 2) with
  | [x, y], _ => exact ⟨x, y, rfl⟩
 have h0 := (und 0 (by simp)).1
 have h1 := (und 1 (by simp)).1
 rw [hH] at h0 h1
 have e0 : x.2 = [1] := h0
 have hix : ixH (idsE [aE, bE]) hTwo = 0 := by decide
 have h1' : y.2 = undF [x.2, y.2] 1 [ixH (idsE [aE, bE]) hTwo] := h1
 rw [hix] at h1'
 have e1 : y.2 = joinW (addW (List.replicate 1 0) 1) x.2 := h1'
 rw [e0] at e1
 have e2 : joinW (addW (List.replicate 1 0) 1) [1] = [3] := by decide
 rw [e2] at e1
 simp [e0, e1]
theorem Tryz.in9 (w : World) (vs : Array Value) : (callFunc 9 vs).run Tryz.prog w = .ok (.enter 9 vs) w := by kernel_rfl
theorem bNa : Tryz.prog.built 50 [(0, .int .i64 1), (1, .int .i64 1)] = some (Nd.ndA 1 1 (.slice none 0 0) (.slice none 0 0)) := by kernel_rfl
theorem bEa : Tryz.prog.built 52 [(0, .agg (bytesA 32 hTwo.f)), (1, .agg (Nd.ndA 1 1 (.slice none 0 0) (.slice none 0 0)))] = some (entA hTwo.f 1 1 (.slice none 0 0) (.slice none 0 0)) := by kernel_rfl
theorem bNb (gp : Nat) : Tryz.prog.built 50 [(0, .int .i64 2), (1, .int .i64 2), (2, .slice (some ⟨gp, 0, none⟩) 1 1)] = some (Nd.ndA 2 2 (.slice (some ⟨gp, 0, none⟩) 1 1) (.slice none 0 0)) := by kernel_rfl
theorem bEb (gp : Nat) : Tryz.prog.built 52 [(0, .agg (bytesA 32 hOne.f)), (1, .agg (Nd.ndA 2 2 (.slice (some ⟨gp, 0, none⟩) 1 1) (.slice none 0 0)))] = some (entA hOne.f 2 2 (.slice (some ⟨gp, 0, none⟩) 1 1) (.slice none 0 0)) := by kernel_rfl
theorem bsE2 (gp : Nat) (w : World) : (Instr.buildSlice 23 2 #[(0, .agg (entA hOne.f 2 2 (.slice (some ⟨gp, 0, none⟩) 1 1) (.slice none 0 0))), (1, .agg (entA hTwo.f 1 1 (.slice none 0 0) (.slice none 0 0)))]).run Tryz.prog w = .ok (.slice (some ⟨w.heap.size, 0, none⟩) 2 2) (w.alloc (.cells (entA hOne.f 2 2 (.slice (some ⟨gp, 0, none⟩) 1 1) (.slice none 0 0) ++ entA hTwo.f 1 1 (.slice none 0 0) (.slice none 0 0)) 52)) := by kernel_rfl
def L0 (gp : Nat) : List EP := [(bE, .slice (some ⟨gp, 0, none⟩) 1 1, .slice none 0 0), (aE, .slice none 0 0, .slice none 0 0)]
theorem l0_sl {w : World} {gl gp : Nat} (h : Blk w gl 52 (entA hOne.f 2 2 (.slice (some ⟨gp, 0, none⟩) 1 1) (.slice none 0 0) ++ entA hTwo.f 1 1 (.slice none 0 0) (.slice none 0 0))) : ESl w (.slice (some ⟨gl, 0, none⟩) 2 2) (L0 gp) := by
 refine .inr ⟨gl, 0, 2, rfl, Nat.le_refl _, ?_⟩
 have h2 := blk_range h
 have e : (L0 gp).flatMap encE = (entA hOne.f 2 2 (.slice (some ⟨gp, 0, none⟩) 1 1) (.slice none 0 0) ++ entA hTwo.f 1 1 (.slice none 0 0) (.slice none 0 0)).toList := by
  rw [Array.toList_append]
  simp [L0, encE, aE, bE]
 rw [e]; exact h2
theorem l0_in {w : World} {gp : Nat} (h : Blk w gp 36 (bytesA 32 hTwo.f)) : EIn w (L0 gp) := by
 intro q hq
 rcases List.mem_cons.1 hq with rfl | hq
 ·have h2 := blk_range h
  have e : flatH [hTwo] = (bytesA 32 hTwo.f).toList := by simp [flatH, encH]
  rw [← e] at h2
  show Nd.NdAt w bE.N (.slice (some ⟨gp, 0, none⟩) 1 1) (.slice none 0 0)
  exact { ps := HRow.mk (L := [hTwo]) rfl (Nat.le_refl _) h2, ops := .inl ⟨none, 0, rfl, rfl⟩, ok := fun x hx => (by cases hx), lp := by decide, lo := by decide, bo := fun h => absurd rfl h, a1 := by decide, a2 := by decide, c1 := by decide, c2 := by decide }
 ·rw [List.mem_singleton.1 hq]
  show Nd.NdAt w aE.N (.slice none 0 0) (.slice none 0 0)
  exact { ps := .inl ⟨none, 0, rfl, rfl, fun _ => rfl⟩, ops := .inl ⟨none, 0, rfl, rfl⟩, ok := fun x hx => (by cases hx), lp := by decide, lo := by decide, bo := fun h => absurd rfl h, a1 := by decide, a2 := by decide, c1 := by decide, c2 := by decide }
structure TwoAt (w : World) (p : Nat) (H : List EP) (S : List (Nat × List Nat)) (v : Value) (mb ub : Nat) : Prop where
 rd : PastRd w p H S v mb ub
 ex : exs H = [aE, bE]
 len : H.length = 2
 s0 : ∃ g0 g1, S = [(g0, [1]), (g1, [3])]
 sb : ∀ k, v.ownBlock = some k → k < w.heap.size
theorem of_two (gl gp : Nat) (w : World) (h1 : Blk w gl 52 (entA hOne.f 2 2 (.slice (some ⟨gp, 0, none⟩) 1 1) (.slice none 0 0) ++ entA hTwo.f 1 1 (.slice none 0 0) (.slice none 0 0))) (h2 : Blk w gp 36 (bytesA 32 hTwo.f)) : Calls Tryz.prog 10 #[.slice (some ⟨gl, 0, none⟩) 2 2] w fun e w' => ∃ p H S v mb ub, e = .returned (.tuple #[.pointer (some ⟨p, 0, none⟩), .int .i64 0, .int .i64 0]) ∧ TwoAt w' p H S v mb ub ∧ Below w.heap.size w w' := by
 refine (of_any _ (L0 gp) w (l0_sl h1) (l0_in h2) (by show (2 : Nat) ≤ _; decide)).mono ?_
 rintro e w' (⟨p, H, S, rfl, hP⟩ | ⟨_, i, hi, _, hne, _⟩ | ⟨_, _, i, hi, _, hne, _⟩)
 ·have hex : exs H = [aE, bE] := two_ex hP.one hP.mem hP.sub (by rw [exs_len, hP.len]; rfl)
  have hund := two_und hex hP.sl hP.und
  have hl : H.length = 2 := by rw [hP.len]; rfl
  obtain ⟨v, mb, ub, ha, ho⟩ := hP.at'
  obtain ⟨v2, mb2, ub2, hr⟩ := hP.rd
  have hsl : S.length = 2 := by rw [hP.sl, hl]
  refine ⟨p, H, S, v2, mb2, ub2, rfl, ⟨hr, hex, hl, ?_, ?_⟩, hP.bel⟩
  ·match S, hsl, hund with
   | [(g0, x), (g1, y)], _, hu =>
    simp only [List.map_cons, List.map_nil, List.cons.injEq, and_true] at hu
    exact ⟨g0, g1, by rw [hu.1, hu.2]⟩
  ·have e1 : v2 = v := by
    have h3 := hr.p.c 0 rfl
    have h4 := ha.p.c 0 rfl
    rw [h3] at h4
    exact Option.some.inj h4
   rw [e1]
   exact owns_lt ho.own
 ·exact absurd (two_al i hi) hne
 ·exact absurd (two_tg i hi) hne
theorem TwoAt.below {w w' : World} {p : Nat} {H : List EP} {S : List (Nat × List Nat)} {v : Value} {mb ub : Nat} (h : TwoAt w p H S v mb ub) (hb : Below w.heap.size w w') : TwoAt w' p H S v mb ub := { h with rd := h.rd.below hb, sb := fun k hk => Nat.lt_of_lt_of_le (h.sb k hk) hb.size }
theorem only_one {L : List Hs} {x : Hs} (hp : L.Pairwise Lt) (hm : ∀ y, y ∈ L ↔ y ∈ [x]) : L = [x] := by
 match L, hp, hm with
 | [], _, hm => exact absurd ((hm x).2 (by simp)) (by simp)
 | [y], _, hm => rw [List.mem_singleton.1 ((hm y).1 (by simp))]
 | y :: z :: r, hp, hm =>
  exfalso
  have e1 := List.mem_singleton.1 ((hm y).1 (by simp))
  have e2 := List.mem_singleton.1 ((hm z).1 (by simp))
  have := (List.pairwise_cons.1 hp).1 z (by simp)
  rw [e1, e2] at this
  exact Lt.irrefl x this
theorem two_top (g0 g1 n : Nat) (hn : n = 2) : (tpF [(g0, [1]), (g1, [3])] (wh n n) n (List.finRange n).reverse).1 = [1] := by
 subst hn
 have e : (List.finRange 2).reverse = [1, 0] := by decide
 have hw : wh 2 2 = [3] := by decide
 have h1 : stT [(g0, [1]), (g1, [3])] [3] ([], [0]) 1 = ([1], [3]) := by
  unfold stT
  rw [if_pos (by decide)]
  show ([] ++ [1], joinW [0] [3]) = ([1], [3])
  rw [show joinW [0] [3] = [3] from by decide]
  rfl
 have h2 : stT [(g0, [1]), (g1, [3])] [3] ([1], [3]) 0 = ([1], [3]) := by
  unfold stT
  rw [if_neg (by decide)]
 rw [e, hw]
 show (stT [(g0, [1]), (g1, [3])] [3] (stT [(g0, [1]), (g1, [3])] [3] ([], [0]) 1) 0).1 = [1]
 rw [h1, h2]
theorem heads_two {H : List EP} {S : List (Nat × List Nat)} {v : Value} {p mb ub : Nat} {w : World} (h : TwoAt w p H S v mb ub) : Calls Tryz.prog 24 #[.pointer (some ⟨p, 0, none⟩)] w fun e w' => ∃ v', e = .returned v' ∧ OwnH w' v' [hOne] ∧ Below w.heap.size w w' := by
 obtain ⟨g0, g1, hS⟩ := h.s0
 refine (heads_past H S v p mb ub w h.rd h.sb (fun i hi => ?_)).mono ?_
 ·subst hS
  rw [h.len]
  match i, hi with
  | 0, _ => exact Nat.le_refl 1
  | 1, _ => exact Nat.le_refl 1
 ·rintro e w' ⟨v', L', rfl, h1, _, h3, h4, h5⟩
  have hT : idsT H (tpF S (wh H.length H.length) H.length (List.finRange H.length).reverse).1 = [hOne] := by
   subst hS
   rw [two_top g0 g1 H.length h.len]
   show [idAt H 1] = [hOne]
   unfold idAt
   rw [h.ex]
   rfl
  rw [hT] at h4
  rw [only_one h3 h4] at h1
  exact ⟨v', rfl, h1, h5⟩
theorem sees01 {H : List EP} {S : List (Nat × List Nat)} {v : Value} {p mb ub : Nat} {w : World} (h : TwoAt w p H S v mb ub) : Calls Tryz.prog 26 #[.pointer (some ⟨p, 0, none⟩), .int .i64 0, .int .i64 1] w fun e w' => e = .returned (.bool true) ∧ w' = w := by
 obtain ⟨g0, g1, hS⟩ := h.s0
 have hl := h.len
 have h2 := sees_yes H S v p mb ub w h.rd 0 1 (by omega) (by omega) (by rw [hS]; simp) (by omega)
 refine h2.mono ?_
 rintro e w' ⟨rfl, rfl⟩
 subst hS
 exact ⟨by show Ending.returned (Value.bool (hasW [3] 0)) = _; rw [show hasW [3] 0 = true from by decide], rfl⟩
theorem sees10 {H : List EP} {S : List (Nat × List Nat)} {v : Value} {p mb ub : Nat} {w : World} (h : TwoAt w p H S v mb ub) : Calls Tryz.prog 26 #[.pointer (some ⟨p, 0, none⟩), .int .i64 1, .int .i64 0] w fun e w' => e = .returned (.bool false) ∧ w' = w := by
 obtain ⟨g0, g1, hS⟩ := h.s0
 have hl := h.len
 have h2 := sees_yes H S v p mb ub w h.rd 1 0 (by omega) (by omega) (by rw [hS]; simp) (by omega)
 refine h2.mono ?_
 rintro e w' ⟨rfl, rfl⟩
 subst hS
 exact ⟨by show Ending.returned (Value.bool (hasW [1] 1)) = _; rw [show hasW [1] 1 = false from by decide], rfl⟩
theorem num_two {H : List EP} {S : List (Nat × List Nat)} {v : Value} {p mb ub : Nat} {w : World} (h : TwoAt w p H S v mb ub) : Calls Tryz.prog 13 #[.pointer (some ⟨p, 0, none⟩), .agg (bytesA 32 hOne.f)] w fun e w' => e = .returned (.int .i64 1) ∧ Below w.heap.size w w' := by
 refine (number_any H S v p mb ub w h.rd hOne).mono ?_
 rintro e w' ⟨rfl, hb⟩
 rw [h.ex]
 exact ⟨rfl, hb⟩
theorem len_two {H : List EP} {S : List (Nat × List Nat)} {v : Value} {p mb ub : Nat} {w : World} (h : TwoAt w p H S v mb ub) : Calls Tryz.prog 18 #[.pointer (some ⟨p, 0, none⟩)] w fun e w' => e = .returned (.int .i64 2) ∧ w' = w := by
 refine (plen_any H S v p mb ub w h.rd).mono ?_
 rintro e w' ⟨rfl, rfl⟩
 rw [h.len]
 exact ⟨rfl, rfl⟩
theorem entry_two {H : List EP} {S : List (Nat × List Nat)} {v : Value} {p mb ub : Nat} {w : World} (h : TwoAt w p H S v mb ub) : Calls Tryz.prog 19 #[.pointer (some ⟨p, 0, none⟩), .int .i64 1] w fun e w' => ∃ a b n m c d, e = .returned (.tuple #[.agg (entA hOne.f 2 2 (.slice a n c) (.slice b m d)), .int .i64 0]) ∧ Below w.heap.size w w' := by
 have hi : 1 < H.length := by rw [h.len]; decide
 have hE : H[1].1 = bE := by
  have h2 := exs_get? H 1 hi
  rw [h.ex] at h2
  exact (Option.some.inj h2).symm
 refine (entry_yes H S v p mb ub w h.rd 1 hi).mono ?_
 rintro e w' ⟨p1, q1, rfl, hF⟩
 obtain ⟨a, c, e1⟩ := hF.nd.ps.form
 obtain ⟨b, d, e2⟩ := hF.nd.ops.form
 rw [hE] at e1 e2 ⊢
 subst e1 e2
 exact ⟨a, b, _, _, c, d, rfl, hF.bel⟩
set_option maxRecDepth 8000 in
set_option maxHeartbeats 4000000 in
theorem awake_any (w : World) : Calls Tryz.prog 9 #[] w fun e w' => e = .returned (.bool true) ∧ Below w.heap.size w w' := by
 go_enter Tryz.func9, Tryz.ntmps9
 refine wp_seq_k fun K1 hK1 => rgn ?_
 refine VbF ?_
 refine WL.nil (hK1 _ _ ?_)
 refine wp_seq_k fun K2 hK2 => rgn ?_
 refine WL.bld (by kernel_rfl) 36 _ rfl [(0, .int .u8 2)] (by simp [Act.eval]) (bytesA 32 hTwo.f) bTwo ?_
 simp only [Act.put, pqA, pqB, pqC]
 refine WL.bld (by kernel_rfl) 50 _ rfl [(0, .int .i64 1), (1, .int .i64 1)] (by simp [Act.eval]) _ bNa ?_
 simp only [Act.put, pqA, pqB, pqC]
 refine WL.bld (by kernel_rfl) 52 _ rfl [(0, .agg (bytesA 32 hTwo.f)), (1, .agg (Nd.ndA 1 1 (.slice none 0 0) (.slice none 0 0)))] (by simp [Act.eval]) _ bEa ?_
 obtain ⟨ea, hea⟩ : ∃ a : Array Value, Keep (a = entA hTwo.f 1 1 (.slice none 0 0) (.slice none 0 0)) := ⟨_, ⟨rfl⟩⟩
 rw [← hea.out]
 simp only [Act.put, pqA, pqB, pqC]
 refine WL.new (by kernel_rfl) 52 rfl (entA (fun _ => 0) 0 0 (.slice none 0 0) (.slice none 0 0)) Tryz.new52 ?_
 obtain ⟨w1, hwn⟩ : ∃ wx, Keep (wx = w.alloc (.cells (entA (fun _ => 0) 0 0 (.slice none 0 0) (.slice none 0 0)) 52)) := ⟨_, ⟨rfl⟩⟩
 rw [← hwn.out]
 have HZ1 : Keep (Blk w1 w.heap.size 52 (entA (fun _ => 0) 0 0 (.slice none 0 0) (.slice none 0 0))) := ⟨by rw [hwn.out]; exact Blk.new _ _ _⟩
 have LB1 : Keep (Below w.heap.size w w1) := ⟨by rw [hwn.out]; exact below_new _ _⟩
 clear hwn
 simp only [Act.put, pqA, pqB, pqC]
 refine WL.storeR (by kernel_rfl) 52 (.tmp 1) (.tmp 11) rfl w.heap.size ea rfl rfl 52 _ HZ1.out (by rw [hea.out]; exact sizeE _ _ _ _ _) (by rw [hea.out, entA_size, entA_size]) (by rw [hea.out]; exact entA_one _ _ _ _ _ rfl rfl) ?_
 have HA := Keep.mk (HZ1.out.setRow ea)
 have B1 : Keep (Below w.heap.size w (w1.setRow w.heap.size ea)) := ⟨below_setRow LB1.out (Nat.le_refl _) _⟩
 generalize w1.setRow w.heap.size ea = w2 at *
 clear HZ1 LB1
 obtain ⟨g1, hg1⟩ : ∃ b, Keep (b = w.heap.size) := ⟨_, ⟨rfl⟩⟩
 rw [← hg1.out] at HA ⊢
 simp only [Act.put]
 refine WL.nil (hK2 _ _ ?_)
 refine wp_seq_k fun K3 hK3 => rgn ?_
 refine WL.bld (by kernel_rfl) 36 _ rfl [(0, .int .u8 1)] (by simp [Act.eval]) (bytesA 32 hOne.f) bOne ?_
 simp only [Act.put, pqA, pqB, pqC]
 refine WL.bld (by kernel_rfl) 36 _ rfl [(0, .int .u8 2)] (by simp [Act.eval]) (bytesA 32 hTwo.f) bTwo ?_
 simp only [Act.put, pqA, pqB, pqC]
 refine WL.bs (by kernel_rfl) 24 1 _ rfl #[(0, .agg (bytesA 32 hTwo.f))] (by simp [Act.eval]) _ _ (bsH hTwo w2) ?_
 obtain ⟨w3, hw3⟩ : ∃ wx, Keep (wx = w2.alloc (.cells (bytesA 32 hTwo.f) 36)) := ⟨_, ⟨rfl⟩⟩
 obtain ⟨gp, hgp⟩ : ∃ b, Keep (b = w2.heap.size) := ⟨_, ⟨rfl⟩⟩
 rw [← hw3.out, ← hgp.out]
 have HP3 : Keep (Blk w3 gp 36 (bytesA 32 hTwo.f)) := ⟨by rw [hw3.out, hgp.out]; exact Blk.new _ _ _⟩
 have B3 : Keep (Below w2.heap.size w2 w3) := ⟨by rw [hw3.out]; exact below_new _ _⟩
 clear hw3 hgp
 have HA3 := Keep.mk (HA.out.below B3.out HA.out.lt)
 have LB3 := Keep.mk (belowC B1.out B3.out)
 clear HA B3 B1
 simp only [Act.put, pqA, pqB, pqC]
 refine WL.bld (by kernel_rfl) 50 _ rfl [(0, .int .i64 2), (1, .int .i64 2), (2, .slice (some ⟨gp, 0, none⟩) 1 1)] (by simp [Act.eval]) _ (bNb gp) ?_
 simp only [Act.put, pqA, pqB, pqC]
 refine WL.bld (by kernel_rfl) 52 _ rfl [(0, .agg (bytesA 32 hOne.f)), (1, .agg (Nd.ndA 2 2 (.slice (some ⟨gp, 0, none⟩) 1 1) (.slice none 0 0)))] (by simp [Act.eval]) _ (bEb gp) ?_
 obtain ⟨eb, heb⟩ : ∃ a : Array Value, Keep (a = entA hOne.f 2 2 (.slice (some ⟨gp, 0, none⟩) 1 1) (.slice none 0 0)) := ⟨_, ⟨rfl⟩⟩
 rw [← heb.out]
 simp only [Act.put, pqA, pqB, pqC]
 refine WL.new (by kernel_rfl) 52 rfl (entA (fun _ => 0) 0 0 (.slice none 0 0) (.slice none 0 0)) Tryz.new52 ?_
 obtain ⟨w4, hwn⟩ : ∃ wx, Keep (wx = w3.alloc (.cells (entA (fun _ => 0) 0 0 (.slice none 0 0) (.slice none 0 0)) 52)) := ⟨_, ⟨rfl⟩⟩
 rw [← hwn.out]
 have HZ4 : Keep (Blk w4 w3.heap.size 52 (entA (fun _ => 0) 0 0 (.slice none 0 0) (.slice none 0 0))) := ⟨by rw [hwn.out]; exact Blk.new _ _ _⟩
 have LB4 : Keep (Below w3.heap.size w3 w4) := ⟨by rw [hwn.out]; exact below_new _ _⟩
 clear hwn
 simp only [Act.put, pqA, pqB, pqC]
 refine WL.storeR (by kernel_rfl) 52 (.tmp 2) (.tmp 16) rfl w3.heap.size eb rfl rfl 52 _ HZ4.out (by rw [heb.out]; exact sizeE _ _ _ _ _) (by rw [heb.out, entA_size, entA_size]) (by rw [heb.out]; exact entA_one _ _ _ _ _ rfl rfl) ?_
 have HB5 := Keep.mk (HZ4.out.setRow eb)
 have B5 : Keep (Below w3.heap.size w3 (w4.setRow w3.heap.size eb)) := ⟨below_setRow LB4.out (Nat.le_refl _) _⟩
 generalize w4.setRow w3.heap.size eb = w5 at *
 clear HZ4 LB4
 obtain ⟨g2, hg2⟩ : ∃ b, Keep (b = w3.heap.size) := ⟨_, ⟨rfl⟩⟩
 rw [← hg2.out] at HB5 ⊢
 have HA5 := Keep.mk (HA3.out.below B5.out HA3.out.lt)
 have HP5 := Keep.mk (HP3.out.below B5.out HP3.out.lt)
 have LB5 := Keep.mk (belowC LB3.out B5.out)
 clear HA3 HP3 LB3 B5
 simp only [Act.put]
 refine WL.nil (hK3 _ _ ?_)
 refine wp_seq_k fun K4 hK4 => rgn ?_
 refine WL.row (by kernel_rfl) 52 (.tmp 2) rfl g2 rfl 52 eb _ HB5.out Tryz.underlying52 rfl (by rw [heb.out]; exact sizeE _ _ _ _ _) ?_
 simp only [Act.put, pqA, pqB, pqC]
 refine WL.row (by kernel_rfl) 52 (.tmp 1) rfl g1 rfl 52 ea _ HA5.out Tryz.underlying52 rfl (by rw [hea.out]; exact sizeE _ _ _ _ _) ?_
 simp only [Act.put, pqA, pqB, pqC]
 have hbs := bsE2 gp w5
 rw [← heb.out, ← hea.out] at hbs
 refine WL.bs (by kernel_rfl) 23 2 _ rfl #[(0, .agg eb), (1, .agg ea)] (by simp [Act.eval]) _ _ hbs ?_
 clear hbs
 obtain ⟨w6, hw6⟩ : ∃ wx, Keep (wx = w5.alloc (.cells (eb ++ ea) 52)) := ⟨_, ⟨rfl⟩⟩
 obtain ⟨gl, hgl⟩ : ∃ b, Keep (b = w5.heap.size) := ⟨_, ⟨rfl⟩⟩
 rw [← hw6.out, ← hgl.out]
 have HL6 : Keep (Blk w6 gl 52 (eb ++ ea)) := ⟨by rw [hw6.out, hgl.out]; exact Blk.new _ _ _⟩
 have B6 : Keep (Below w5.heap.size w5 w6) := ⟨by rw [hw6.out]; exact below_new _ _⟩
 clear hw6 hgl
 have HB6 := Keep.mk (HB5.out.below B6.out HB5.out.lt)
 have HP6 := Keep.mk (HP5.out.below B6.out HP5.out.lt)
 have LB6 := Keep.mk (belowC LB5.out B6.out)
 clear HA5 HB5 HP5 LB5 B6
 simp only [Act.put, pqA, pqB, pqC]
 refine WL.callF (by kernel_rfl) 10 _ _ rfl Tryz.in10 #[.slice (some ⟨gl, 0, none⟩) 2 2] (by simp [Act.eval]) ?_
 refine (of_two gl gp w6 (by rw [← heb.out, ← hea.out]; exact HL6.out) HP6.out).mono ?_
 rintro e w7 ⟨p, H, S, v, mb, ub, rfl, hT, hb⟩
 refine ⟨_, rfl, ?_⟩
 have HT := Keep.mk hT
 have HB7 := Keep.mk (HB6.out.below hb HB6.out.lt)
 have LB7 := Keep.mk (belowC LB6.out hb)
 clear hT hb HB6 LB6 HL6 HP6
 simp only [Act.put, pqA, pqB, pqC]
 refine VlS (.tuple #[.pointer (some ⟨p, 0, none⟩), .int .i64 0, .int .i64 0]) ?_
 refine VlS (.pointer (some ⟨p, 0, none⟩)) ?_
 refine VlS (.int .i64 0) ?_
 refine VlS (.int .i64 0) ?_
 refine VlS (.pointer (some ⟨p, 0, none⟩)) ?_
 refine VlS (.int .i64 0) ?_
 refine VlS (.int .i64 0) ?_
 refine WL.nil (hK4 _ _ ?_)
 refine wp_seq_k fun K5 hK5 => ?_
 refine wp_seq_k fun K6 hK6 => rgn ?_
 refine VlS (.int .i64 0) ?_
 refine VbF ?_
 refine VbF ?_
 refine VlS (.pointer (some ⟨p, 0, none⟩)) ?_
 refine VbF ?_
 refine VbF ?_
 refine VbF ?_
 refine VlS (.pointer (some ⟨p, 0, none⟩)) ?_
 refine WL.callF (by kernel_rfl) 18 _ _ rfl Tryz.in18 #[.pointer (some ⟨p, 0, none⟩)] (by simp [Act.eval]) ?_
 refine (len_two HT.out).mono ?_
 rintro e wq ⟨rfl, hwq⟩
 refine ⟨_, rfl, ?_⟩
 rw [hwq]
 clear hwq
 simp only [Act.put, pqA, pqB, pqC]
 refine VbF ?_
 refine VbF ?_
 refine VbF ?_
 refine VlS (.pointer (some ⟨p, 0, none⟩)) ?_
 refine VlS (.pointer (some ⟨g2, 0, none⟩)) ?_
 refine WL.midA (by kernel_rfl) 36 (.tmp 38) rfl g2 0 rfl (bytesA 32 hOne.f) _ (by have h := blk_range HB7.out; rw [heb.out] at h; exact ent_range_id h) Tryz.underlying36 rfl (size36E _) ?_
 simp only [Act.put, pqA, pqB, pqC]
 refine WL.callF (by kernel_rfl) 13 _ _ rfl Tryz.in13 #[.pointer (some ⟨p, 0, none⟩), .agg (bytesA 32 hOne.f)] (by simp [Act.eval]) ?_
 refine (num_two HT.out).mono ?_
 rintro e w8 ⟨rfl, hb⟩
 refine ⟨_, rfl, ?_⟩
 have HT8 := Keep.mk (HT.out.below hb)
 have HB8 := Keep.mk (HB7.out.below hb HB7.out.lt)
 have LB8 := Keep.mk (belowC LB7.out hb)
 clear hb HT HB7 LB7
 simp only [Act.put, pqA, pqB, pqC]
 refine VbF ?_
 refine VbF ?_
 refine VbF ?_
 refine VlS (.pointer (some ⟨p, 0, none⟩)) ?_
 refine WL.callF (by kernel_rfl) 26 _ _ rfl Tryz.in26 #[.pointer (some ⟨p, 0, none⟩), .int .i64 0, .int .i64 1] (by simp [Act.eval]) ?_
 refine (sees01 HT8.out).mono ?_
 rintro e wq ⟨rfl, hwq⟩
 refine ⟨_, rfl, ?_⟩
 rw [hwq]
 clear hwq
 simp only [Act.put, pqA, pqB, pqC]
 refine VbF ?_
 refine VbF ?_
 refine VbF ?_
 refine VlS (.pointer (some ⟨p, 0, none⟩)) ?_
 refine WL.callF (by kernel_rfl) 26 _ _ rfl Tryz.in26 #[.pointer (some ⟨p, 0, none⟩), .int .i64 1, .int .i64 0] (by simp [Act.eval]) ?_
 refine (sees10 HT8.out).mono ?_
 rintro e wq ⟨rfl, hwq⟩
 refine ⟨_, rfl, ?_⟩
 rw [hwq]
 clear hwq
 simp only [Act.put, pqA, pqB, pqC]
 refine VbF ?_
 refine WL.nil (hK6 _ _ ?_)
 refine wp_cond_false rfl ?_
 refine wp_skip ?_
 refine hK5 _ _ ?_
 refine wp_seq_k fun K7 hK7 => rgn ?_
 refine VlS (.pointer (some ⟨p, 0, none⟩)) ?_
 refine WL.callF (by kernel_rfl) 24 _ _ rfl Tryz.in24 #[.pointer (some ⟨p, 0, none⟩)] (by simp [Act.eval]) ?_
 refine (heads_two HT8.out).mono ?_
 rintro e w9 ⟨v9, rfl, hO, hb⟩
 refine ⟨_, rfl, ?_⟩
 have HT9 := Keep.mk (HT8.out.below hb)
 have HB9 := Keep.mk (HB8.out.below hb HB8.out.lt)
 have LB9 := Keep.mk (belowC LB8.out hb)
 obtain ⟨va, vc, hv9⟩ := hO.sl
 subst hv9
 have HO9 := Keep.mk hO
 clear hb HT8 HB8 LB8 hO
 simp only [Act.put, pqA, pqB, pqC]
 refine VlS (.slice va [hOne].length vc) ?_
 refine WL.nil (hK7 _ _ ?_)
 refine wp_seq_k fun K8 hK8 => rgn ?_
 refine VlS (.pointer (some ⟨p, 0, none⟩)) ?_
 refine WL.callF (by kernel_rfl) 19 _ _ rfl Tryz.in19 #[.pointer (some ⟨p, 0, none⟩), .int .i64 1] (by simp [Act.eval]) ?_
 refine (entry_two HT9.out).mono ?_
 rintro e w10 ⟨a9, b9, n9, m9, c9, d9, rfl, hb⟩
 refine ⟨_, rfl, ?_⟩
 have HB10 := Keep.mk (HB9.out.below hb HB9.out.lt)
 have HO10 := Keep.mk (HO9.out.below hb)
 have LB10 := Keep.mk (belowC LB9.out hb)
 clear hb HT9 HB9 LB9 HO9
 obtain ⟨e1, he1⟩ : ∃ a : Array Value, Keep (a = entA hOne.f 2 2 (.slice a9 n9 c9) (.slice b9 m9 d9)) := ⟨_, ⟨rfl⟩⟩
 rw [← he1.out]
 simp only [Act.put, pqA, pqB, pqC]
 refine VlS (.tuple #[.agg e1, .int .i64 0]) ?_
 refine VlS (.agg e1) ?_
 refine VlS (.int .i64 0) ?_
 refine WL.new (by kernel_rfl) 52 rfl (entA (fun _ => 0) 0 0 (.slice none 0 0) (.slice none 0 0)) Tryz.new52 ?_
 obtain ⟨w11, hwn⟩ : ∃ wx, Keep (wx = w10.alloc (.cells (entA (fun _ => 0) 0 0 (.slice none 0 0) (.slice none 0 0)) 52)) := ⟨_, ⟨rfl⟩⟩
 rw [← hwn.out]
 have HZ11 : Keep (Blk w11 w10.heap.size 52 (entA (fun _ => 0) 0 0 (.slice none 0 0) (.slice none 0 0))) := ⟨by rw [hwn.out]; exact Blk.new _ _ _⟩
 have LB11 : Keep (Below w10.heap.size w10 w11) := ⟨by rw [hwn.out]; exact below_new _ _⟩
 clear hwn
 simp only [Act.put, pqA, pqB, pqC]
 refine WL.storeR (by kernel_rfl) 52 (.tmp 7) (.tmp 57) rfl w10.heap.size e1 rfl rfl 52 _ HZ11.out (by rw [he1.out]; exact sizeE _ _ _ _ _) (by rw [he1.out, entA_size, entA_size]) (by rw [he1.out]; exact entA_one _ _ _ _ _ rfl rfl) ?_
 have HE12 := Keep.mk (HZ11.out.setRow e1)
 have B12 : Keep (Below w10.heap.size w10 (w11.setRow w10.heap.size e1)) := ⟨below_setRow LB11.out (Nat.le_refl _) _⟩
 generalize w11.setRow w10.heap.size e1 = w12 at *
 clear HZ11 LB11
 obtain ⟨g7, hg7⟩ : ∃ b, Keep (b = w10.heap.size) := ⟨_, ⟨rfl⟩⟩
 rw [← hg7.out] at HE12 ⊢
 have HB12 := Keep.mk (HB10.out.below B12.out HB10.out.lt)
 have HO12 := Keep.mk (HO10.out.below B12.out)
 have LB12 := Keep.mk (belowC LB10.out B12.out)
 clear HB10 HO10 LB10 B12
 simp only [Act.put]
 refine VlS (.int .i64 0) ?_
 refine WL.nil (hK8 _ _ ?_)
 refine wp_seq_k fun K9 hK9 => ?_
 obtain ⟨hb, ho, hva, hrg⟩ := hrow_at (t := 0) HO12.out.row (by decide)
 subst hva
 have hrg' : w12.rangeAt hb (ho + 0 * 32) (bytesA 32 hOne.f).toList := hrg
 rw [Nat.zero_mul, Nat.add_zero] at hrg'
 clear hrg
 have hS0 : Keep ((fun wz => wz.rangeAt hb ho (bytesA 32 hOne.f).toList ∧ wz.rangeAt g2 0 (bytesA 32 hOne.f).toList ∧ wz.rangeAt g7 0 (bytesA 32 hOne.f).toList) w12.drew) := ⟨⟨hrg', ent_range_id (heb.out ▸ blk_range HB12.out.drew), ent_range_id (he1.out ▸ blk_range HE12.out.drew)⟩⟩
 refine wp_region_held_drew (S := fun wz => wz.rangeAt hb ho (bytesA 32 hOne.f).toList ∧ wz.rangeAt g2 0 (bytesA 32 hOne.f).toList ∧ wz.rangeAt g7 0 (bytesA 32 hOne.f).toList) (by kernel_rfl) (hS0.out) (fun hHeld => ?_)
 refine TkC (i := 0) (oi := ⟨some 59, Op.move (Operand.tmp 6), 24, _, _, none⟩) (v := .slice (some ⟨hb, ho, none⟩) [hOne].length vc) rfl hHeld ?_
 refine TkC (i := 1) (oi := ⟨some 60, Op.call { callee := Callee.builtin Builtin.len, args := #[Operand.tmp 59], argTypes := #[24] }, 3, _, _, none⟩) (v := .int .i64 1) rfl hHeld ?_
 refine TkC (i := 2) (oi := ⟨some 61, Op.binOp BinOp.eql 3 (Operand.tmp 60) (Operand.const (Value.int IntKind.i64 1)) 3, 4, _, _, none⟩) (v := .bool true) rfl hHeld ?_
 refine TkC (i := 3) (oi := ⟨some 62, Op.move (Operand.tmp 61), 4, _, _, none⟩) (v := .bool true) rfl hHeld ?_
 refine TkC (i := 4) (oi := ⟨some 63, Op.move (Operand.tmp 6), 24, _, _, some (3, true)⟩) (v := .slice (some ⟨hb, ho, none⟩) [hOne].length vc) rfl hHeld ?_
 refine TkC (i := 5) (oi := ⟨some 64, Op.indexAddr 24 (Operand.tmp 63) (Operand.const (Value.int IntKind.i64 0)), 0, _, _, some (3, true)⟩) (v := .pointer (some ⟨hb, ho, none⟩)) rfl hHeld ?_
 refine tkS (i := 6) (oi := ⟨some 65, Op.load 36 (Operand.tmp 64), 36, _, _, some (3, true)⟩) (v := .agg (bytesA 32 hOne.f)) rfl (yieldsIf_ld (by rfl) (Operand.tmp 64) 36 rfl hb ho rfl (bytesA 32 hOne.f) _ Tryz.underlying36 rfl (size36E _) fun w hS => hS.1) hHeld ?_
 refine TkC (i := 7) (oi := ⟨some 66, Op.fieldAddr 52 (Operand.tmp 2) 0, 0, _, _, some (3, true)⟩) (v := .pointer (some ⟨g2, 0, none⟩)) rfl hHeld ?_
 refine tkS (i := 8) (oi := ⟨some 67, Op.load 36 (Operand.tmp 66), 36, _, _, some (3, true)⟩) (v := .agg (bytesA 32 hOne.f)) rfl (yieldsIf_ld (by rfl) (Operand.tmp 66) 36 rfl g2 0 rfl (bytesA 32 hOne.f) _ Tryz.underlying36 rfl (size36E _) fun w hS => hS.2.1) hHeld ?_
 refine tkS (i := 9) (oi := ⟨some 68, Op.binOp BinOp.eql 36 (Operand.tmp 65) (Operand.tmp 67) 36, 4, _, _, some (3, true)⟩) (v := .bool true) rfl (Or.inl ⟨by rfl, fun w hS => by go_simp; rw [run_equal_arr2, show ((List.range 32).all fun i => hOne.f i == hOne.f i) = true from by simp]; rfl⟩) hHeld ?_
 refine TkC (i := 10) (oi := ⟨some 69, Op.pick (Operand.tmp 62) (Operand.tmp 68) (Operand.const (Value.bool false)), 4, _, _, none⟩) (v := .bool true) rfl hHeld ?_
 refine TkC (i := 11) (oi := ⟨some 70, Op.move (Operand.tmp 69), 4, _, _, none⟩) (v := .bool true) rfl hHeld ?_
 refine TkC (i := 12) (oi := ⟨some 71, Op.move (Operand.tmp 8), 26, _, _, some (11, true)⟩) (v := .int .i64 0) rfl hHeld ?_
 refine TkC (i := 13) (oi := ⟨some 72, Op.binOp BinOp.eql 26 (Operand.tmp 71) (Operand.const (Value.int IntKind.i64 0)) 26, 4, _, _, some (11, true)⟩) (v := .bool true) rfl hHeld ?_
 refine TkC (i := 14) (oi := ⟨some 73, Op.pick (Operand.tmp 70) (Operand.tmp 72) (Operand.const (Value.bool false)), 4, _, _, none⟩) (v := .bool true) rfl hHeld ?_
 refine TkC (i := 15) (oi := ⟨some 74, Op.move (Operand.tmp 73), 4, _, _, none⟩) (v := .bool true) rfl hHeld ?_
 refine TkC (i := 16) (oi := ⟨some 75, Op.fieldAddr 52 (Operand.tmp 7) 0, 0, _, _, some (15, true)⟩) (v := .pointer (some ⟨g7, 0, none⟩)) rfl hHeld ?_
 refine tkS (i := 17) (oi := ⟨some 76, Op.load 36 (Operand.tmp 75), 36, _, _, some (15, true)⟩) (v := .agg (bytesA 32 hOne.f)) rfl (yieldsIf_ld (by rfl) (Operand.tmp 75) 36 rfl g7 0 rfl (bytesA 32 hOne.f) _ Tryz.underlying36 rfl (size36E _) fun w hS => hS.2.2) hHeld ?_
 refine TkC (i := 18) (oi := ⟨some 77, Op.fieldAddr 52 (Operand.tmp 2) 0, 0, _, _, some (15, true)⟩) (v := .pointer (some ⟨g2, 0, none⟩)) rfl hHeld ?_
 refine tkS (i := 19) (oi := ⟨some 78, Op.load 36 (Operand.tmp 77), 36, _, _, some (15, true)⟩) (v := .agg (bytesA 32 hOne.f)) rfl (yieldsIf_ld (by rfl) (Operand.tmp 77) 36 rfl g2 0 rfl (bytesA 32 hOne.f) _ Tryz.underlying36 rfl (size36E _) fun w hS => hS.2.1) hHeld ?_
 refine tkS (i := 20) (oi := ⟨some 79, Op.binOp BinOp.eql 36 (Operand.tmp 76) (Operand.tmp 78) 36, 4, _, _, some (15, true)⟩) (v := .bool true) rfl (Or.inl ⟨by rfl, fun w hS => by go_simp; rw [run_equal_arr2, show ((List.range 32).all fun i => hOne.f i == hOne.f i) = true from by simp]; rfl⟩) hHeld ?_
 refine TkC (i := 21) (oi := ⟨some 80, Op.pick (Operand.tmp 74) (Operand.tmp 79) (Operand.const (Value.bool false)), 4, _, _, none⟩) (v := .bool true) rfl hHeld ?_
 refine TkC (i := 22) (oi := ⟨some 0, Op.assign (Operand.tmp 80), 4, _, _, none⟩) (v := .bool true) rfl hHeld ?_
 refine wpAnyH_done (by kernel_rfl) ?_ _
 refine hK9 _ _ ?_
 refine wp_ret ?_
 go_ret
 exact ⟨rfl, belowC LB12.out (Below.refl _ _).drew⟩
end Go.Proofs.YthlohkgdmfkpeaaGreat
