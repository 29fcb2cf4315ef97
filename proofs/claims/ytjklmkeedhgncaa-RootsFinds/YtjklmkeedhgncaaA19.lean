import Derived.Test.YtjklmkeedhgncaaA14
import Derived.Test.YtjklmkeedhgncaaA04
import Derived.Test.YtjklmkeedhgncaaA18
import Derived.Deep.RegionHeld3
namespace Go.Proofs.Ytjklmkeedhgncaa
open Go.RowKit
set_option linter.unusedSimpArgs false
set_option linter.unusedVariables false
theorem Try.in32 (w : World) (vs : Array Value) : (callFunc 32 vs).run Try.prog w = .ok (.enter 32 vs) w := by kernel_rfl
def LfP (L : List CV) (n i : Nat) (c : CV) (w : World) (e : Ending) (w' : World) : Prop :=
 ∃ x : LV, e = .returned (.agg (lvA x)) ∧ x.num = (i : Int) ∧ x.c.k = c.k ∧ x.c.s = c.s ∧ x.c.l = c.l ∧ Own w' x.c.v x.c.l ∧ w'.ownsRow w.heap.size 25 32 x.pv x.ps.length (flatH x.ps) ∧ x.ps.map hsL = pathL n L i ∧ Below w.heap.size w w'
set_option maxRecDepth 8000 in
set_option maxHeartbeats 1000000 in
theorem lfo_any (b off n cap i : Nat) (L : List CV) (c : CV) (w : World) (hn : Keep (L.length = n)) (hi : i < n) (hcap : n ≤ cap) (HN : Keep (n ≤ 1099511627776)) (HC : Keep (CsAt w.heap.size w b off L)) (HF : Keep (Fit L)) (Hc : Keep (L[i]? = some c)) (HSz : Keep (c.l.length ≤ 140737488355328)) : Calls Try.prog 32 #[.slice (some ⟨b, off, none⟩) n cap, .int .i64 (i : Int)] w (LfP L n i c w) := by
 have hi' : (i : Int) < (n : Int) := by omega
 have HRw : Keep (∀ wx, Below w.heap.size w wx → RowAt wx c.v c.l) := ⟨fun wx hb => ((HC.out.below hb).row c (List.mem_of_getElem? Hc.out)).1⟩
 obtain ⟨va, vc, hcv⟩ := row_form (HRw.out w (Below.refl _ _))
 have HCv := Keep.mk hcv
 clear hcv
 go_enter Try.func32, Try.ntmps32
 refine wp_seq_k fun K1 hK1 => rgn ?_
 refine WL.new (by kernel_rfl) 69 rfl _ Try.newLf ?_
 have R1 := Keep.mk (Blk.new w 69 zLf)
 have b_ := below_new w (.cells zLf 69)
 change WL _ _ _ _ _ (w.alloc (.cells zLf 69))
 generalize w.alloc (.cells zLf 69) = w1 at *
 obtain ⟨r, hr0⟩ : ∃ z, Keep (z = w.heap.size) := ⟨_, ⟨rfl⟩⟩
 rw [← hr0.out] at R1 ⊢
 have B1 : Keep (Below w.heap.size w w1) := ⟨b_⟩
 have gr : Keep (w.heap.size ≤ r) := ⟨by rw [hr0.out]; exact Nat.le_refl _⟩
 clear b_
 simp only [Act.put, pqA, pqB, pqC]
 refine WL.nil (hK1 _ _ ?_)
 refine wp_seq_k fun K2 hK2 => rgn ?_
 refine WL.bld (by kernel_rfl) 61 #[] rfl [] (by simp) _ bld_bk ?_
 simp only [Act.put, pqA, pqB, pqC]
 refine WL.box (by kernel_rfl) 61 (.tmp 7) rfl #[.slice none 0 0] rfl ?_
 have K4 := Keep.mk (BkH.new w1)
 have b_ := below_new w1 (.cells #[.slice none 0 0] 61)
 generalize w1.alloc (.cells #[.slice none 0 0] 61) = w2 at *
 obtain ⟨x, hx⟩ : ∃ z, Keep (z = w1.heap.size) := ⟨_, ⟨rfl⟩⟩
 have BK2 : Keep (BkH w.heap.size w2 x []) := ⟨by
  have h := K4.out
  rw [hx.out]
  exact ⟨Nat.le_trans B1.out.size h.ge, by
   obtain ⟨vr, cs, h1, h2, h3, h4⟩ := h.ex
   exact ⟨vr, cs, h1, ⟨h2.1, by
    rcases h2.2 with h5 | ⟨g', c', cur, h5, h6, h7⟩
    ·exact .inl h5
    ·exact .inr ⟨g', c', cur, h5, Nat.le_trans B1.out.size h6, h7⟩⟩, h3, h4⟩⟩⟩
 rw [← hx.out]
 have R2 := Keep.mk (R1.out.below b_ R1.out.lt)
 have B2 : Keep (Below w.heap.size w w2) := ⟨B1.out.trans (b_.mono B1.out.size)⟩
 have HX : Keep (CsAt w.heap.size w2 b off L) := ⟨HC.out.below B2.out⟩
 clear b_ K4 R1 hx
 simp only [Act.put, pqA, pqB, pqC]
 refine VlS (.pointer (some ⟨x, 0, none⟩)) ?_
 refine WL.nil (hK2 _ _ ?_)
 refine wp_seq_k fun K3 hK3 => rgn ?_
 refine VlS (.slice (some ⟨b, off, none⟩) n cap) ?_
 refine VlS (.int .i64 (i : Int)) ?_
 refine VlS (.pointer (some ⟨b, off + i * 3, none⟩)) ?_
 refine WL.midA (by kernel_rfl) 40 (.tmp 11) rfl b (off + i * 3) rfl (cvA c) _ (HX.out.at_ i c Hc.out) Try.underlying40 rfl (Try.sizeC _ _ _) ?_
 simp only [Act.put, pqA, pqB, pqC]
 refine WL.new (by kernel_rfl) 40 rfl _ Try.newC ?_
 have P3 := Keep.mk (Blk.new w2 40 #[.int .i64 0, .string ByteArray.empty, .slice none 0 0])
 have b_ := below_new w2 (.cells #[.int .i64 0, .string ByteArray.empty, .slice none 0 0] 40)
 change WL _ _ _ _ _ (w2.alloc (.cells #[.int .i64 0, .string ByteArray.empty, .slice none 0 0] 40))
 generalize w2.alloc (.cells #[.int .i64 0, .string ByteArray.empty, .slice none 0 0] 40) = w3 at *
 obtain ⟨p, hp0⟩ : ∃ z, Keep (z = w2.heap.size) := ⟨_, ⟨rfl⟩⟩
 rw [← hp0.out] at P3 ⊢
 have R3 := Keep.mk (R2.out.below b_ R2.out.lt)
 have B3 : Keep (Below w.heap.size w w3) := ⟨B2.out.trans (b_.mono B2.out.size)⟩
 have gp : Keep (w.heap.size ≤ p) := ⟨by rw [hp0.out]; exact B2.out.size⟩
 have BK3 := Keep.mk (BK2.out.below b_)
 clear b_
 simp only [Act.put, pqA, pqB, pqC]
 refine WL.storeR (by kernel_rfl) 40 (.tmp 6) (.tmp 12) rfl p (cvA c) rfl rfl 40 #[.int .i64 0, .string ByteArray.empty, .slice none 0 0] P3.out (Try.sizeC _ _ _) rfl (by rw [cvA, HCv.out]; simp [Value.oneCell']) ?_
 have P4 := Keep.mk (P3.out.setRow (cvA c))
 have R4 := Keep.mk (R3.out.setRow_ne (blk_ne R3.out P3.out (by decide)) (cvA c))
 have BK4 := Keep.mk (BK3.out.setRow P3.out (cvA c) (by decide) (by decide) (by decide))
 have B4 : Keep (Below w.heap.size w (w3.setRow p (cvA c))) := ⟨below_setRow B3.out gp.out _⟩
 generalize w3.setRow p (cvA c) = w4 at *
 clear P3 R3 BK3
 have p2_ : w4.cell? ⟨p, 2, none⟩ = some c.v := P4.out.c 2 rfl
 simp only [Act.put]
 refine WL.nil (hK3 _ _ ?_)
 refine wp_seq_k fun K4 hK4 => rgn ?_
 refine VlS (.pointer (some ⟨p, 2, none⟩)) ?_
 refine WL.val (by kernel_rfl) c.v (by go_simp) ?_
 clear p2_
 simp only [Act.put, pqA, pqB, pqC]
 refine WL.app (by kernel_rfl) (.const (.slice none 0 0)) (.tmp 14) rfl (.slice none 0 0) c.v [] c.l rfl rfl (own_nil _) (HRw.out w4 B4.out) (by simpa using HSz.out) ?_
 intro v5 w5 hp
 have O5 : Keep (Own w5 v5 c.l) := ⟨by simpa using hp.1⟩
 have b5 : Below w4.heap.size w4 w5 := by
  have h := hp.grown
  exact h.to_below (fun k _ e => by simp [Value.ownBlock] at e) (Nat.le_refl _)
 obtain ⟨xa, xn, xc, hv5⟩ := O5.out.sl
 subst hv5
 have P5 := Keep.mk (P4.out.below b5 P4.out.lt)
 have R5 := Keep.mk (R4.out.below b5 R4.out.lt)
 have BK5 := Keep.mk (BK4.out.below b5)
 have B5 : Keep (Below w.heap.size w w5) := ⟨B4.out.trans (b5.mono B4.out.size)⟩
 clear b5 hp P4 R4 BK4
 have f_o := P5.out.frozen 2
 have c_o := P5.out.c 2 (by rfl : (cvA c)[2]? = some c.v)
 simp only [Act.put, pqA, pqB, pqC]
 refine VlS (.pointer (some ⟨p, 2, none⟩)) ?_
 refine WL.cell (by kernel_rfl) (w5.setCell ⟨p, 2, none⟩ (.slice xa xn xc)) (by go_simp) ?_
 clear f_o c_o
 have P6 : Keep (Blk (w5.setCell ⟨p, 2, none⟩ (.slice xa xn xc)) p 40 #[.int .i64 c.k, .string c.s, .slice xa xn xc]) := ⟨by have h := P5.out.set 2 (.slice xa xn xc); exact h⟩
 have g_ : Grown w5 (w5.setCell ⟨p, 2, none⟩ (.slice xa xn xc)) (fun k => k = p) := Grown.setCell w5 p 2 _ fun _ => rfl
 have R6 := Keep.mk (g_.blk R5.out (blk_ne R5.out P5.out (by decide)))
 have O6 := Keep.mk (O5.out.grown g_ fun k hk e => by subst e; exact O5.out.ne P5.out (by decide) hk)
 have BK6 : Keep (BkH w.heap.size (w5.setCell ⟨p, 2, none⟩ (.slice xa xn xc)) x []) := ⟨BK5.out.grown g_ fun k e => by
  subst e
  exact ⟨fun h => absurd (h.one P5.out.typ) (by decide), fun h => absurd (h.one P5.out.typ) (by decide), fun v l h hk => h.ne P5.out (by decide) hk⟩⟩
 have B6 : Keep (Below w.heap.size w (w5.setCell ⟨p, 2, none⟩ (.slice xa xn xc))) := ⟨B5.out.trans (g_.to_below (fun k hk e => by have := gp.out; omega) B5.out.size)⟩
 generalize w5.setCell ⟨p, 2, none⟩ (.slice xa xn xc) = w6 at *
 clear g_ P5 R5 O5 BK5
 simp only [Act.put]
 refine WL.nil (hK4 _ _ ?_)
 refine wp_seq_k fun K5 hK5 => ?_
 have Pd : Keep (Blk w6.drew p 40 #[.int .i64 c.k, .string c.s, .slice xa xn xc]) := ⟨P6.out⟩
 have Rd : Keep (Blk w6.drew r 69 zLf) := ⟨R6.out⟩
 have Od : Keep (Own w6.drew (.slice xa xn xc) c.l) := ⟨O6.out⟩
 have BKd := Keep.mk (BK6.out.below (Below.refl w6.heap.size w6).drew)
 have Bd : Keep (Below w.heap.size w w6.drew) := ⟨B6.out.drew⟩
 have HP : Keep (Calls Try.prog 57 #[.pointer (some ⟨x, 0, none⟩), .slice (some ⟨b, off, none⟩) n cap, .int .i64 (i : Int)] w6.drew (PP w.heap.size x n L i [] w6.drew)) := ⟨by
  have h := path_any w.heap.size x n HN.out b off cap L i [] w6.drew (by rw [hn.out]; omega) (by rw [hn.out]; exact Nat.le_refl _) (by rw [hn.out]; exact hi) BKd.out (HC.out.below Bd.out) HF.out (by rw [hn.out]; exact hcap) (by rw [hn.out]; simp; have := HN.out; omega) Bd.out.size
  rw [hn.out] at h
  exact h⟩
 refine wp_region_held_drew (S := fun wx => wx.rangeAt p 0 (#[.int .i64 c.k, .string c.s, .slice xa xn xc] : Array Value).toList) (by kernel_rfl) (blk_range Pd.out) (fun hHeld => ?_)
 refine TkG (i := 0) (oi := ⟨some 17, Op.move (Operand.tmp 1), 3, _, _, none⟩) (v := .int .i64 (i : Int)) rfl hHeld ?_
 refine tkS (i := 1) (oi := ⟨some 18, Op.load 40 (Operand.tmp 6), 40, _, _, none⟩) (v := .agg #[.int .i64 c.k, .string c.s, .slice xa xn xc]) rfl (yieldsIf_ld (by rfl) (Operand.tmp 6) 40 rfl p 0 rfl #[.int .i64 c.k, .string c.s, .slice xa xn xc] _ Try.underlying40 rfl (Try.sizeC _ _ _) fun w hS => hS) hHeld ?_
 refine TkG (i := 2) (oi := ⟨some 19, Op.move (Operand.tmp 5), 58, _, _, none⟩) (v := .pointer (some ⟨x, 0, none⟩)) rfl hHeld ?_
 refine TkG (i := 3) (oi := ⟨some 20, Op.move (Operand.tmp 0), 23, _, _, none⟩) (v := .slice (some ⟨b, off, none⟩) n cap) rfl hHeld ?_
 refine TkG (i := 4) (oi := ⟨some 21, Op.move (Operand.tmp 1), 3, _, _, none⟩) (v := .int .i64 (i : Int)) rfl hHeld ?_
 refine wpAnyH_ready (rs := [5]) (by kernel_rfl) (by simp) ?_
 refine AllReadyH.cons (o := ⟨some 22, Op.call { callee := Callee.value (Operand.func 57), args := #[Operand.tmp 19, Operand.tmp 20, Operand.tmp 21], argTypes := #[58, 23, 3] }, 67, _, _, none⟩) rfl (fun K hK => ?_) AllReadyH.nil
 rw [if_pos (by rfl)]
 refine wp_callF 57 _ _ rfl Try.in57 #[.pointer (some ⟨x, 0, none⟩), .slice (some ⟨b, off, none⟩) n cap, .int .i64 (i : Int)] (by simp [Act.eval]) (fun vz wz => ∃ (ps : List Hs), wz.ownsRow w.heap.size 25 32 vz ps.length (flatH ps) ∧ ps.map hsL = pathL n L i ∧ Grown w6.drew wz (BkS w.heap.size w6.drew)) ?_ ?_
 ·refine (HP.out).mono ?_
  rintro e wz ⟨v, ps, R9_, rfl, k1, k2, k3, k4, k5, k6⟩
  exact ⟨_, rfl, ps, k1, k3, k6⟩
 rintro vz w7 ⟨ps, k1, k3, k6⟩
 obtain ⟨pa, pc, hvz⟩ := owns_sl k1
 subst hvz
 obtain ⟨pn, hpn⟩ : ∃ z, Keep (z = ps.length) := ⟨_, ⟨rfl⟩⟩
 rw [← hpn.out]
 have Q7 : Keep (w7.ownsRow w.heap.size 25 32 (.slice pa pn pc) ps.length (flatH ps)) := ⟨by rw [hpn.out]; exact k1⟩
 have HPs := Keep.mk k3
 have P7 := Keep.mk (Pd.out.bk k6 (by decide) (by decide))
 have R7 := Keep.mk (Rd.out.bk k6 (by decide) (by decide))
 have O7 := Keep.mk (Od.out.bk k6)
 have B7 : Keep (Below w.heap.size w w7) := ⟨Bd.out.trans (k6.bkBelow Bd.out.size)⟩
 clear k1 k3 k6
 refine hK _ _ (blk_range P7.out) fun hHa => ?_
 clear hK
 simp only [Act.put, pqA, pqB, pqC]
 refine wpAnyH_ready (rs := [6]) (by kernel_rfl) (by simp) ?_
 refine AllReadyH.cons (o := ⟨some 23, Op.build 69 #[(0, Operand.tmp 17), (1, Operand.tmp 18), (2, Operand.tmp 22)], 69, _, _, none⟩) rfl (fun K hK => ?_) AllReadyH.nil
 rw [if_pos (by rfl)]
 refine wp_bldG 69 #[(0, .tmp 17), (1, .tmp 18), (2, .tmp 22)] rfl #[.int .i64 (i : Int), .int .i64 c.k, .string c.s, .slice xa xn xc, .slice pa pn pc] (by simpa [Act.eval] using bldLf (i : Int) c.k c.s xa xn xc pa pn pc) ?_
 refine hK _ _ (blk_range P7.out) fun hHb => ?_
 clear hK
 simp only [Act.put, pqA, pqB, pqC]
 refine wpAnyH_ready (rs := [7]) (by kernel_rfl) (by simp) ?_
 refine AllReadyH.cons (o := ⟨none, Op.store 69 (Operand.tmp 4) (Operand.tmp 23), 0, _, _, none⟩) rfl (fun K hK => ?_) AllReadyH.nil
 rw [if_pos (by rfl)]
 refine wp_store_row 69 (.tmp 4) (.tmp 23) rfl r #[.int .i64 (i : Int), .int .i64 c.k, .string c.s, .slice xa xn xc, .slice pa pn pc] rfl rfl 69 zLf R7.out (Try.sizeLf ⟨(i : Int), ⟨c.k, c.s, .slice xa xn xc, c.l⟩, .slice pa pn pc, ps⟩) rfl (by simp [Value.oneCell']) ?_
 have R9 := Keep.mk (R7.out.setRow #[.int .i64 (i : Int), .int .i64 c.k, .string c.s, .slice xa xn xc, .slice pa pn pc])
 have g_ : Grown w7 (w7.setRow r #[.int .i64 (i : Int), .int .i64 c.k, .string c.s, .slice xa xn xc, .slice pa pn pc]) (fun k => k = r) := Grown.setRow _ r #[.int .i64 (i : Int), .int .i64 c.k, .string c.s, .slice xa xn xc, .slice pa pn pc] fun _ => rfl
 have P9 := Keep.mk (g_.blk P7.out (blk_ne P7.out R7.out (by decide)))
 have O9 := Keep.mk (O7.out.grown g_ fun k hk e => by subst e; exact O7.out.ne R7.out (by decide) hk)
 have Q9 := Keep.mk (owns_grown Q7.out g_ fun k hk e => by subst e; exact absurd ((owns_typ Q7.out hk).one R7.out.typ) (by decide))
 have B9 : Keep (Below w.heap.size w (w7.setRow r #[.int .i64 (i : Int), .int .i64 c.k, .string c.s, .slice xa xn xc, .slice pa pn pc])) := ⟨below_setRow B7.out gr.out _⟩
 generalize w7.setRow r #[.int .i64 (i : Int), .int .i64 c.k, .string c.s, .slice xa xn xc, .slice pa pn pc] = w9 at *
 clear g_
 refine hK _ _ (blk_range P9.out) fun hHc => ?_
 clear hK
 simp only [Act.put, pqA, pqB, pqC]
 refine wpAnyH_done (by kernel_rfl) ?_ _
 refine hK5 _ _ ?_
 refine wp_ret ?_
 try simp only [Exit.inBlock, Exit.then]
 refine bodyPost_ret (v := .agg #[.int .i64 (i : Int), .int .i64 c.k, .string c.s, .slice xa xn xc, .slice pa pn pc]) (results_cell_row Try.results32 _ _ r 69 _ (0, 0) _ rfl R9.out Try.underlying69 rfl (Try.sizeLf ⟨(i : Int), ⟨c.k, c.s, .slice xa xn xc, c.l⟩, .slice pa pn pc, ps⟩)) rfl ⟨⟨(i : Int), ⟨c.k, c.s, .slice xa xn xc, c.l⟩, .slice pa pn pc, ps⟩, rfl, rfl, rfl, rfl, rfl, O9.out, Q9.out, HPs.out, B9.out⟩

theorem bldW2 (n : Int) (a : Option Addr) (k c : Nat) : Try.prog.built 31 [(0, .int .i64 n), (1, .slice a k c)] = some #[.int .i64 n, .slice a k c] := by kernel_rfl
theorem bsLx (x : LV) (w : World) (h1 : ∃ a n c, x.c.v = .slice a n c) (h2 : ∃ a n c, x.pv = .slice a n c) : (Instr.buildSlice 29 1 #[(0, .agg (lvA x))]).run Try.prog w = .ok (.slice (some ⟨w.heap.size, 0, none⟩) 1 1) (w.alloc (.cells (lvA x) 69)) := by
 obtain ⟨num, ⟨k, s, v, l⟩, pv, ps⟩ := x
 obtain ⟨a, n, c, rfl⟩ := h1
 obtain ⟨a', n', c', rfl⟩ := h2
 exact bsLf num k s a n c a' n' c' w
theorem lv_one (x : LV) (h1 : ∃ a n c, x.c.v = .slice a n c) (h2 : ∃ a n c, x.pv = .slice a n c) : (lvA x).all (·.oneCell') = true := by
 obtain ⟨num, ⟨k, s, v, l⟩, pv, ps⟩ := x
 obtain ⟨a, n, c, rfl⟩ := h1
 obtain ⟨a', n', c', rfl⟩ := h2
 simp [lvA, Value.oneCell']
theorem owns_zero {w : World} {B T s n : Nat} {v : Value} {xs : List Value} (h : w.ownsRow B T s v n xs) : w.ownsRow 0 T s v n xs := by
 rcases h.2 with ⟨rfl, e⟩ | ⟨g, cap, cur, rfl, h1, h2⟩
 ·exact ⟨h.1, .inl ⟨rfl, e⟩⟩
 ·exact ⟨h.1, .inr ⟨g, cap, cur, rfl, Nat.zero_le _, h2⟩⟩
theorem FI.lay {w0 wr : World} {d n : Nat} {vl : Value} {L : List CV} {ns : List Nat} {u : Nat} {ls : List LV} (h : FI 0 w0 wr d n vl L ns u ls) (x : LV) (k : Nat) (c : CV) (wb wc : World) (v9 : Value)
  (hb : Below wr.heap.size wr wb) (hOx : Own wb x.c.v x.c.l) (hPx : wb.ownsRow 0 25 32 x.pv x.ps.length (flatH x.ps))
  (hOc : wc.ownsRow w0.heap.size 69 5 v9 (u + 1) ((ls.flatMap fun x => (lvA x).toList) ++ (lvA x).toList)) (hGc : Grown wb wc (fun k => vl.ownBlock = some k))
  (hk : ns[u]? = some k) (hc : L[k]? = some c) (e1 : x.num = (k : Int)) (e2 : x.c.k = c.k) (e3 : x.c.s = c.s) (e4 : x.c.l = c.l) (e5 : x.ps.map hsL = pathL L.length L k) :
  FI 0 w0 (wc.setCell ⟨d, 1, none⟩ v9) d n v9 L ns (u + 1) (ls ++ [x]) := by
 have hvb : ∀ k, vl.ownBlock = some k → w0.heap.size ≤ k ∧ Typ wb k 69 := fun k hk => ⟨(owns_lt h.own k hk).1, owns_typ (owns_below h.own hb) hk⟩
 have hDb : Blk wb d 31 #[.int .i64 (n : Int), vl] := h.bd.below hb h.bd.lt
 have hDc : Blk wc d 31 #[.int .i64 (n : Int), vl] := hGc.blk hDb fun e => absurd ((hvb _ e).2.one hDb.typ) (by decide)
 have g_ : Grown wc (wc.setCell ⟨d, 1, none⟩ v9) (fun k => k = d) := Grown.setCell wc d 1 _ fun _ => rfl
 have hall : ∀ {B T s n' : Nat} {v : Value} {xs : List Value}, wb.ownsRow B T s v n' xs → T ≠ 69 → T ≠ 31 → (wc.setCell ⟨d, 1, none⟩ v9).ownsRow B T s v n' xs := fun ho h1 h2 =>
  owns_grown (owns_grown ho hGc fun k hk e => h1 ((owns_typ ho hk).one (hvb k e).2)) g_ fun k hk e => h2 (Typ.one (e ▸ owns_typ ho hk) hDb.typ)
 have hGb : Grown wr wc (fun k => k ≠ d ∧ w0.heap.size ≤ k) := (Grown.below (S := fun k => k ≠ d ∧ w0.heap.size ≤ k) hb).next hGc fun i _ e => ⟨fun ed => by subst ed; exact absurd ((hvb _ e).2.one hDb.typ) (by decide), (hvb i e).1⟩
 refine ⟨(h.gr.next hGb fun i hi e => by have := e.2; omega).trans g_, hDc.set 1 v9, ?_, by rw [List.length_append, h.len]; rfl, fun y hy => ?_, fun j k' y hj hy => ?_⟩
 ·rw [List.flatMap_append, show List.flatMap (fun x => (lvA x).toList) [x] = (lvA x).toList from by simp]
  exact owns_grown hOc g_ fun k hk e => by
   subst e
   exact absurd ((owns_typ hOc hk).one hDc.typ) (by decide)
 ·rcases List.mem_append.mp hy with hy | hy
  ·exact ⟨hall (owns_below (h.rows y hy).1 hb) (by decide) (by decide), hall (owns_below (h.rows y hy).2 hb) (by decide) (by decide)⟩
  ·rw [List.mem_singleton.mp hy]
   exact ⟨hall hOx (by decide) (by decide), hall hPx (by decide) (by decide)⟩
 ·by_cases hjt : j < u
  ·exact h.is j k' y hj (by rw [List.getElem?_append_left (by rw [h.len]; exact hjt)] at hy; exact hy)
  ·rw [List.getElem?_append_right (by rw [h.len]; omega), h.len] at hy
   obtain rfl : j = u := by
    have := (List.getElem?_eq_some_iff.mp hy).1
    simp at this; omega
   rw [Nat.sub_self] at hy
   simp at hy
   subst hy
   obtain rfl : k = k' := Option.some.inj (hk.symm.trans hj)
   exact ⟨e1, ⟨c, hc, e2, e3, e4⟩, e5⟩
theorem FI.drew {B : Nat} {w0 w : World} {d n : Nat} {vl : Value} {L : List CV} {ns : List Nat} {u : Nat} {ls : List LV} (h : FI B w0 w d n vl L ns u ls) : FI B w0 w.drew d n vl L ns u ls :=
 ⟨h.gr.drew, h.bd, owns_below h.own (Below.refl _ _).drew, h.len, fun x hx => ⟨owns_below (h.rows x hx).1 (Below.refl _ _).drew, owns_below (h.rows x hx).2 (Below.refl _ _).drew⟩, h.is⟩
def cntF (a : Nat) (is : Bool) (t : Nat) : Nat := if t = a ∧ 0 < t ∧ is = false then 1 else 0
theorem name_no {c : CV} {kind : Int} {key : ByteArray} (h : ¬ stI c.k c.s kind key = 0) : ¬ (c.k = kind ∧ c.s = key) := fun e => h ((stI_eq _ _ _ _).mpr e)
theorem fndB_at {L : List CV} {i : Nat} {c : CV} {kind : Int} {key : ByteArray} (h : L[i]? = some c) : fndB L i kind key = decide (stI c.k c.s kind key = 0) := by unfold fndB; rw [h]
set_option maxRecDepth 8000 in
theorem dfd_kind (la : Option Addr) (n cap at_ : Nat) (L : List CV) (kind : Int) (key : ByteArray) (w : World) (hkm : kmay kind = false) : Calls Try.prog 13 #[.slice la n cap, .int .i64 kind, .string key] w (FdP L kind at_ key w) := by
 go_enter Try.func13, Try.ntmps13
 refine wp_seq_k fun K1 hK1 => rgn ?_
 refine WL.new (by kernel_rfl) 31 rfl _ Try.newW ?_
 have R1 := Keep.mk (Blk.new w 31 #[.int .i64 0, .slice none 0 0])
 have b_ := below_new w (.cells #[.int .i64 0, .slice none 0 0] 31)
 change WL _ _ _ _ _ (w.alloc (.cells #[.int .i64 0, .slice none 0 0] 31))
 generalize w.alloc (.cells #[.int .i64 0, .slice none 0 0] 31) = w1 at *
 obtain ⟨r, hr0⟩ : ∃ z, Keep (z = w.heap.size) := ⟨_, ⟨rfl⟩⟩
 rw [← hr0.out] at R1 ⊢
 have B1 : Keep (Below w.heap.size w w1) := ⟨b_⟩
 have gr : Keep (w.heap.size ≤ r) := ⟨by rw [hr0.out]; exact Nat.le_refl _⟩
 clear b_
 simp only [Act.put, pqA, pqB, pqC]
 refine VlS (.int .i64 0) ?_
 refine WL.nil (hK1 _ _ ?_)
 refine wp_seq_k fun K2 hK2 => rgn ?_
 refine VlS (.int .i64 kind) ?_
 refine WL.callF (by kernel_rfl) 31 _ _ rfl Try.in31 #[.int .i64 kind] (by simp [Act.eval]) ?_
 refine (kmay_any kind _).mono ?_
 rintro e w1_z ⟨rfl, hw_⟩
 refine ⟨_, rfl, ?_⟩
 have hw_ := hw_.symm
 subst hw_
 rw [hkm]
 simp only [Act.put, pqA, pqB, pqC]
 refine VbF ?_
 refine WL.nil (hK2 _ _ ?_)
 refine wp_seq_k fun K3 hK3 => ?_
 refine wp_seq_k fun K4 hK4 => rgn ?_
 refine VbF ?_
 refine VbT ?_
 refine WL.nil (hK4 _ _ ?_)
 refine wp_cond_true rfl ?_
 refine wp_seq_k fun K5 hK5 => rgn ?_
 refine WL.bld (by kernel_rfl) 31 #[] rfl [] (by simp) #[.int .i64 0, .slice none 0 0] bldW ?_
 simp only [Act.put, pqA, pqB, pqC]
 refine WL.storeR (by kernel_rfl) 31 (.tmp 6) (.tmp 19) rfl r #[.int .i64 0, .slice none 0 0] rfl rfl 31 #[.int .i64 0, .slice none 0 0] R1.out (by rfl) rfl (by simp [Value.oneCell']) ?_
 have R9 := Keep.mk (R1.out.setRow #[.int .i64 0, .slice none 0 0])
 have B9 : Keep (Below w.heap.size w (w1.setRow r #[.int .i64 0, .slice none 0 0])) := ⟨below_setRow B1.out gr.out _⟩
 generalize w1.setRow r #[.int .i64 0, .slice none 0 0] = w9 at *
 simp only [Act.put]
 refine VlS (.int .i64 40) ?_
 refine WL.nil (hK5 _ _ ?_)
 refine wp_ret ?_
 try simp only [Exit.inBlock, Exit.then]
 refine bodyPost_ret (v := .tuple #[.agg #[.int .i64 0, .slice none 0 0], .int .i64 40]) (results_cell_row2 Try.results13 _ _ r 31 _ (0, 0) _ _ rfl rfl R9.out Try.underlying31 rfl (by rfl)) rfl ⟨0, .slice none 0 0, [], 40, rfl, .inl ⟨none, 0, rfl, rfl⟩, B9.out, fun _ => ⟨rfl, rfl, rfl⟩, (fun h => by rw [hkm] at h; cases h), (fun h => by rw [hkm] at h; cases h)⟩
set_option maxRecDepth 8000 in
theorem dfd_wrong (la : Option Addr) (n cap at_ : Nat) (L : List CV) (kind : Int) (key : ByteArray) (w : World) (er : Int) (hkm : kmay kind = true) (hwi : Keep (wrongI L = er)) (her : ¬ er = 0) (HC : Keep (CsV w.heap.size w (.slice la n cap) L)) (HN : Keep (L.length ≤ 4398046511104)) : Calls Try.prog 13 #[.slice la n cap, .int .i64 kind, .string key] w (FdP L kind at_ key w) := by
 have her' : (er == 0) = false := by simpa using her
 go_enter Try.func13, Try.ntmps13
 refine wp_seq_k fun K1 hK1 => rgn ?_
 refine WL.new (by kernel_rfl) 31 rfl _ Try.newW ?_
 have R1 := Keep.mk (Blk.new w 31 #[.int .i64 0, .slice none 0 0])
 have b_ := below_new w (.cells #[.int .i64 0, .slice none 0 0] 31)
 change WL _ _ _ _ _ (w.alloc (.cells #[.int .i64 0, .slice none 0 0] 31))
 generalize w.alloc (.cells #[.int .i64 0, .slice none 0 0] 31) = w1 at *
 obtain ⟨r, hr0⟩ : ∃ z, Keep (z = w.heap.size) := ⟨_, ⟨rfl⟩⟩
 rw [← hr0.out] at R1 ⊢
 have B1 : Keep (Below w.heap.size w w1) := ⟨b_⟩
 have gr : Keep (w.heap.size ≤ r) := ⟨by rw [hr0.out]; exact Nat.le_refl _⟩
 clear b_
 simp only [Act.put, pqA, pqB, pqC]
 refine VlS (.int .i64 0) ?_
 refine WL.nil (hK1 _ _ ?_)
 refine wp_seq_k fun K2 hK2 => rgn ?_
 refine VlS (.int .i64 kind) ?_
 refine WL.callF (by kernel_rfl) 31 _ _ rfl Try.in31 #[.int .i64 kind] (by simp [Act.eval]) ?_
 refine (kmay_any kind _).mono ?_
 rintro e w1_z ⟨rfl, hw_⟩
 refine ⟨_, rfl, ?_⟩
 have hw_ := hw_.symm
 subst hw_
 rw [hkm]
 simp only [Act.put, pqA, pqB, pqC]
 refine VbT ?_
 refine WL.nil (hK2 _ _ ?_)
 refine wp_seq_k fun K3 hK3 => ?_
 refine wp_seq_k fun K4 hK4 => rgn ?_
 refine VbT ?_
 refine VbF ?_
 refine WL.nil (hK4 _ _ ?_)
 refine wp_cond_false rfl ?_
 refine wp_skip ?_
 refine hK3 _ _ ?_
 refine wp_seq_k fun K5 hK5 => rgn ?_
 refine VlS (.slice la n cap) ?_
 refine WL.callF (by kernel_rfl) 18 _ _ rfl Try.in18 #[.slice la n cap] (by simp [Act.eval]) ?_
 refine (wrong_any w.heap.size _ L w1 (HC.out.below B1.out) B1.out.size HN.out).mono ?_
 rintro e w2 ⟨rfl, k1⟩
 refine ⟨_, rfl, ?_⟩
 rw [hwi.out]
 have R2 := Keep.mk (R1.out.below k1 R1.out.lt)
 have B2 : Keep (Below w.heap.size w w2) := ⟨B1.out.trans (k1.mono B1.out.size)⟩
 clear k1
 simp only [Act.put, pqA, pqB, pqC]
 refine VlS (.int .i64 er) ?_
 refine WL.nil (hK5 _ _ ?_)
 refine wp_seq_k fun K6 hK6 => ?_
 refine wp_seq_k fun K7 hK7 => rgn ?_
 refine VlS (.int .i64 er) ?_
 refine VbT ?_
 refine WL.nil (hK7 _ _ ?_)
 refine wp_cond_true rfl ?_
 refine wp_seq_k fun K8 hK8 => rgn ?_
 refine WL.bld (by kernel_rfl) 31 #[] rfl [] (by simp) #[.int .i64 0, .slice none 0 0] bldW ?_
 simp only [Act.put, pqA, pqB, pqC]
 refine VlS (.int .i64 er) ?_
 refine WL.storeR (by kernel_rfl) 31 (.tmp 6) (.tmp 24) rfl r #[.int .i64 0, .slice none 0 0] rfl rfl 31 #[.int .i64 0, .slice none 0 0] R2.out (by rfl) rfl (by simp [Value.oneCell']) ?_
 have R9 := Keep.mk (R2.out.setRow #[.int .i64 0, .slice none 0 0])
 have B9 : Keep (Below w.heap.size w (w2.setRow r #[.int .i64 0, .slice none 0 0])) := ⟨below_setRow B2.out gr.out _⟩
 generalize w2.setRow r #[.int .i64 0, .slice none 0 0] = w9 at *
 simp only [Act.put]
 refine VlS (.int .i64 er) ?_
 refine WL.nil (hK8 _ _ ?_)
 refine wp_ret ?_
 try simp only [Exit.inBlock, Exit.then]
 refine bodyPost_ret (v := .tuple #[.agg #[.int .i64 0, .slice none 0 0], .int .i64 er]) (results_cell_row2 Try.results13 _ _ r 31 _ (0, 0) _ _ rfl rfl R9.out Try.underlying31 rfl (by rfl)) rfl ⟨0, .slice none 0 0, [], er, rfl, .inl ⟨none, 0, rfl, rfl⟩, B9.out, (fun h => by rw [hkm] at h; cases h), (fun _ _ => ⟨rfl, rfl, hwi.out.symm⟩), (fun _ h => absurd (hwi.out.symm.trans h) her)⟩
set_option maxRecDepth 8000 in
theorem dfd_none (la : Option Addr) (cap at_ : Nat) (kind : Int) (key : ByteArray) (w : World) (hkm : kmay kind = true) (HC : Keep (CsV w.heap.size w (.slice la 0 cap) [])) : Calls Try.prog 13 #[.slice la 0 cap, .int .i64 kind, .string key] w (FdP [] kind at_ key w) := by
 go_enter Try.func13, Try.ntmps13
 refine wp_seq_k fun K1 hK1 => rgn ?_
 refine WL.new (by kernel_rfl) 31 rfl _ Try.newW ?_
 have R1 := Keep.mk (Blk.new w 31 #[.int .i64 0, .slice none 0 0])
 have b_ := below_new w (.cells #[.int .i64 0, .slice none 0 0] 31)
 change WL _ _ _ _ _ (w.alloc (.cells #[.int .i64 0, .slice none 0 0] 31))
 generalize w.alloc (.cells #[.int .i64 0, .slice none 0 0] 31) = w1 at *
 obtain ⟨r, hr0⟩ : ∃ z, Keep (z = w.heap.size) := ⟨_, ⟨rfl⟩⟩
 rw [← hr0.out] at R1 ⊢
 have B1 : Keep (Below w.heap.size w w1) := ⟨b_⟩
 have gr : Keep (w.heap.size ≤ r) := ⟨by rw [hr0.out]; exact Nat.le_refl _⟩
 clear b_
 simp only [Act.put, pqA, pqB, pqC]
 refine VlS (.int .i64 0) ?_
 refine WL.nil (hK1 _ _ ?_)
 refine wp_seq_k fun K2 hK2 => rgn ?_
 refine VlS (.int .i64 kind) ?_
 refine WL.callF (by kernel_rfl) 31 _ _ rfl Try.in31 #[.int .i64 kind] (by simp [Act.eval]) ?_
 refine (kmay_any kind _).mono ?_
 rintro e w1_z ⟨rfl, hw_⟩
 refine ⟨_, rfl, ?_⟩
 have hw_ := hw_.symm
 subst hw_
 rw [hkm]
 simp only [Act.put, pqA, pqB, pqC]
 refine VbT ?_
 refine WL.nil (hK2 _ _ ?_)
 refine wp_seq_k fun K3 hK3 => ?_
 refine wp_seq_k fun K4 hK4 => rgn ?_
 refine VbT ?_
 refine VbF ?_
 refine WL.nil (hK4 _ _ ?_)
 refine wp_cond_false rfl ?_
 refine wp_skip ?_
 refine hK3 _ _ ?_
 refine wp_seq_k fun K5 hK5 => rgn ?_
 refine VlS (.slice la 0 cap) ?_
 refine WL.callF (by kernel_rfl) 18 _ _ rfl Try.in18 #[.slice la 0 cap] (by simp [Act.eval]) ?_
 refine (wrong_any w.heap.size _ [] w1 (HC.out.below B1.out) B1.out.size (by simp)).mono ?_
 rintro e w2 ⟨rfl, k1⟩
 refine ⟨_, rfl, ?_⟩
 change WL _ _ _ _ (Act.put _ _ (.int .i64 0)) w2
 have R2 := Keep.mk (R1.out.below k1 R1.out.lt)
 have B2 : Keep (Below w.heap.size w w2) := ⟨B1.out.trans (k1.mono B1.out.size)⟩
 clear k1
 simp only [Act.put, pqA, pqB, pqC]
 refine VlS (.int .i64 0) ?_
 refine WL.nil (hK5 _ _ ?_)
 refine wp_seq_k fun K6 hK6 => ?_
 refine wp_seq_k fun K7 hK7 => rgn ?_
 refine VlS (.int .i64 0) ?_
 refine VbF ?_
 refine WL.nil (hK7 _ _ ?_)
 refine wp_cond_false rfl ?_
 refine wp_skip ?_
 refine hK6 _ _ ?_
 refine wp_seq_k fun K8 hK8 => rgn ?_
 refine VlS (.slice la 0 cap) ?_
 refine VlS (.int .i64 0) ?_
 refine WL.bld (by kernel_rfl) 31 #[(0, .tmp 27)] rfl [(0, .int .i64 0)] (by simp [Act.eval]) #[.int .i64 0, .slice none 0 0] (bldW1 0) ?_
 simp only [Act.put, pqA, pqB, pqC]
 refine WL.new (by kernel_rfl) 31 rfl _ Try.newW ?_
 have D3 := Keep.mk (Blk.new w2 31 #[.int .i64 0, .slice none 0 0])
 have b_ := below_new w2 (.cells #[.int .i64 0, .slice none 0 0] 31)
 change WL _ _ _ _ _ (w2.alloc (.cells #[.int .i64 0, .slice none 0 0] 31))
 generalize w2.alloc (.cells #[.int .i64 0, .slice none 0 0] 31) = w3 at *
 obtain ⟨d, hd0⟩ : ∃ z, Keep (z = w2.heap.size) := ⟨_, ⟨rfl⟩⟩
 rw [← hd0.out] at D3 ⊢
 have R3 := Keep.mk (R2.out.below b_ R2.out.lt)
 have B3 : Keep (Below w.heap.size w w3) := ⟨B2.out.trans (b_.mono B2.out.size)⟩
 have gd : Keep (w.heap.size ≤ d) := ⟨by rw [hd0.out]; exact B2.out.size⟩
 clear b_
 have hrd : Keep (r ≠ d) := ⟨by have := R2.out.lt; have := hd0.out; omega⟩
 simp only [Act.put, pqA, pqB, pqC]
 refine WL.storeR (by kernel_rfl) 31 (.tmp 10) (.tmp 28) rfl d #[.int .i64 0, .slice none 0 0] rfl rfl 31 #[.int .i64 0, .slice none 0 0] D3.out (by rfl) rfl (by simp [Value.oneCell']) ?_
 have D4 := Keep.mk (D3.out.setRow #[.int .i64 0, .slice none 0 0])
 have B4 : Keep (Below w.heap.size w (w3.setRow d #[.int .i64 0, .slice none 0 0])) := ⟨below_setRow B3.out gd.out _⟩
 have R4 := Keep.mk (R3.out.setRow_ne hrd.out #[.int .i64 0, .slice none 0 0])
 generalize w3.setRow d #[.int .i64 0, .slice none 0 0] = w4 at *
 simp only [Act.put]
 refine WL.nil (hK8 _ _ ?_)
 refine wp_seq_k fun K9 hK9 => ?_
 refine wp_seq_k fun K10 hK10 => rgn ?_
 refine VlS (.int .i64 0) ?_
 refine WL.nil (hK10 _ _ ?_)
 refine wp_block ?_
 refine wp_loop (fun ac wr => ∃ (t : Nat) (f : Nat → Value), ac = { tmps := #[.slice la 0 cap, .int .i64 kind, .string key, undef, undef, undef, .pointer (some ⟨r, 0, none⟩), f 7, .bool true, .int .i64 0, .pointer (some ⟨d, 0, none⟩), .int .i64 0, f 12, f 13, f 14, .int .i64 kind, .bool true, .bool true, .bool false, undef, .slice la 0 cap, .int .i64 0, .int .i64 0, .bool false, undef, undef, .slice la 0 cap, .int .i64 0, .agg #[.int .i64 0, .slice none 0 0], f 29, f 30, f 31, f 32, f 33, f 34, f 35, f 36, f 37, f 38, f 39, f 40, f 41, f 42, f 43, f 44, f 45, f 46, f 47, f 48, f 49, f 50, f 51, f 52, f 53, f 54, f 55, f 56, f 57, f 58, f 59, f 60, f 61, f 62, f 63, f 64, f 65, f 66, f 67, f 68, f 69, f 70, f 71, f 72, f 73, f 74, f 75, f 76, f 77, f 78, f 79, f 80, f 81, f 82, f 83, f 84, f 85, f 86, f 87, f 88, f 89, f 90, f 91, f 92, f 93, f 94, f 95, f 96, f 97, f 98, f 99, f 100, f 101, f 102, f 103, f 104, f 105, f 106, f 107, f 108, f 109, f 110, f 111, f 112, f 113, f 114, f 115, f 116, f 117, f 118, f 119, f 120, f 121, f 122, f 123, f 124, f 125, f 126, f 127, f 128, f 129, f 130, f 131, f 132, f 133, f 134, f 135, f 136, f 137, f 138, f 139, f 140, undef], defers := [] } ∧ wr = w4) (fun a _ => (0 : Nat)) ⟨0, fun zz => [.slice la 0 cap, .int .i64 kind, .string key, undef, undef, undef, .pointer (some ⟨r, 0, none⟩), .int .i64 0, .bool true, .int .i64 0, .pointer (some ⟨d, 0, none⟩), .int .i64 0, undef, undef, undef, .int .i64 kind, .bool true, .bool true, .bool false, undef, .slice la 0 cap, .int .i64 0, .int .i64 0, .bool false, undef, undef, .slice la 0 cap, .int .i64 0, .agg #[.int .i64 0, .slice none 0 0], undef, undef, undef, undef, undef, undef, undef, undef, undef, undef, undef, undef, undef, undef, undef, undef, undef, undef, undef, undef, undef, undef, undef, undef, undef, undef, undef, undef, undef, undef, undef, undef, undef, undef, undef, undef, undef, undef, undef, undef, undef, undef, undef, undef, undef, undef, undef, undef, undef, undef, undef, undef, undef, undef, undef, undef, undef, undef, undef, undef, undef, undef, undef, undef, undef, undef, undef, undef, undef, undef, undef, undef, undef, undef, undef, undef, undef, undef, undef, undef, undef, undef, undef, undef, undef, undef, undef, undef, undef, undef, undef, undef, undef, undef, undef, undef, undef, undef, undef, undef, undef, undef, undef, undef, undef, undef, undef, undef, undef, undef, undef, undef, undef].getD zz undef, rfl, rfl⟩ ?_
 rintro ac wr ⟨t, f, rfl, hw⟩
 have hw := hw.symm
 subst hw
 have hz_ : ¬ (0 : Int) < 0 := by omega
 refine wp_seq_k fun K11 hK11 => ?_
 refine wp_seq_k fun K12 hK12 => rgn ?_
 refine VlS (.int .i64 0) ?_
 refine VlS (.slice la 0 cap) ?_
 refine VlS (.int .i64 0) ?_
 refine VbF ?_
 refine WL.nil (hK12 _ _ ?_)
 refine wp_cond_false rfl ?_
 refine wp_exit ?_
 refine hK9 _ _ ?_
 refine wp_seq_k fun K13 hK13 => rgn ?_
 refine WL.row (by kernel_rfl) 31 (.tmp 10) rfl d rfl 31 #[.int .i64 0, .slice none 0 0] _ D4.out Try.underlying31 rfl (by rfl) ?_
 simp only [Act.put, pqA, pqB, pqC]
 refine WL.storeR (by kernel_rfl) 31 (.tmp 6) (.tmp 141) rfl r #[.int .i64 0, .slice none 0 0] rfl rfl 31 #[.int .i64 0, .slice none 0 0] R4.out (by rfl) rfl (by simp [Value.oneCell']) ?_
 have R9 := Keep.mk (R4.out.setRow #[.int .i64 0, .slice none 0 0])
 have B9 : Keep (Below w.heap.size w (w4.setRow r #[.int .i64 0, .slice none 0 0])) := ⟨below_setRow B4.out gr.out _⟩
 generalize w4.setRow r #[.int .i64 0, .slice none 0 0] = w9 at *
 simp only [Act.put]
 refine VlS (.int .i64 0) ?_
 refine WL.nil (hK13 _ _ ?_)
 refine wp_ret ?_
 try simp only [Exit.inBlock, Exit.then]
 refine bodyPost_ret (v := .tuple #[.agg #[.int .i64 0, .slice none 0 0], .int .i64 0]) (results_cell_row2 Try.results13 _ _ r 31 _ (0, 0) _ _ rfl rfl R9.out Try.underlying31 rfl (by rfl)) rfl ⟨0, .slice none 0 0, [], 0, rfl, .inl ⟨none, 0, rfl, rfl⟩, B9.out, (fun h => by rw [hkm] at h; cases h), (fun _ h => absurd rfl h), (fun _ _ => ⟨rfl, rfl, fun _ => rfl, fun h => absurd rfl h⟩)⟩

end Go.Proofs.Ytjklmkeedhgncaa
