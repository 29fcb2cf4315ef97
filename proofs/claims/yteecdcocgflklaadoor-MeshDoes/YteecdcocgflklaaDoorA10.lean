import Derived.Test.YteecdcocgflklaaDoorA09
import Derived.Test.YteecdcocgflklaaDoorA07
import Derived.Test.YteecdcocgflklaaDoorA08
namespace Go.Proofs.YteecdcocgflklaaDoor
open Go.RowKit
set_option linter.unusedSimpArgs false
set_option linter.unusedVariables false
theorem tk_thr {N : Nat} {K : List Lk} {f t : Int} (h : tkE N K f t = 0) : thr N f t = true := by
  unfold tkE at h
  cases e : thr N f t
  · rw [e] at h; simp at h
  · rfl
theorem row_rm {w w' : World} {x g N : Nat} {K : List Lk} {f t : Int} {y : Value} {b : List Int} {S : List (Value × List Int)} (h : RmAt w x g N K) (ht : thr N f t = true) (hR : (lkOf K f t).R = (y, b) :: S) (hg : Grown w w' (RmW g K)) : RowAt w' y b := by
  have hr := (h.link ht).2.1.rows (y, b) (by rw [hR]; exact List.mem_cons_self)
  refine (hr.1.grown hg fun k hk e => ?_).row
  rcases e with e | ⟨a, ha, e⟩
  · exact absurd ((owns_typ hr.1 hk).one (e ▸ h.bg.typ)) (by decide)
  · exact absurd ((owns_typ hr.1 hk).one (owns_typ (h.lk a ha).own e)) (by decide)
theorem bk_nil {w : World} {q : Nat} (h : Blk w q 38 #[.slice none 0 0, .slice none 0 0, .int .i64 0]) : BkAt w q (.slice none 0 0) (.slice none 0 0) 0 [] [] :=
  ⟨h, ⟨rfl, .inl ⟨rfl, rfl⟩⟩, ⟨rfl, .inl ⟨rfl, rfl⟩⟩, fun _ h => by simp at h, fun _ h => by simp at h, fun _ _ _ _ _ h => by simp at h, rfl, by simp, fun _ h => by simp [Value.ownBlock] at h⟩
theorem bks_nil {q m : Nat} (h : BkS2 q (.slice none 0 0) (.slice none 0 0) [] [] m) : m = q := by
  rcases h with h | h | h | ⟨_, h, _⟩ | ⟨_, h, _⟩
  · exact h
  · simp [Value.ownBlock] at h
  · simp [Value.ownBlock] at h
  · simp at h
  · simp at h
theorem tk_new {q S : Nat} {vo vw vo' vw' v u : Value} {O Ws : List (Value × List Int)} {b : List Int} (h1 : vo'.ownBlock = vo.ownBlock ∨ ∃ k, vo'.ownBlock = some k ∧ S ≤ k) (h2 : vw'.ownBlock = vw.ownBlock ∨ ∃ k, vw'.ownBlock = some k ∧ S ≤ k) (h3 : ∀ k, u.ownBlock = some k → S ≤ k) (m : Nat) (hm : BkS2 q vo' vw' (O ++ [(v, b)]) (Ws ++ [(u, b)]) m) : BkS2 q vo vw O Ws m ∨ v.ownBlock = some m ∨ S ≤ m := by
  rcases hm with e | e | e | ⟨r, hr, e⟩ | ⟨r, hr, e⟩
  · exact .inl (.inl e)
  · rcases h1 with h | ⟨k, h, h5⟩
    · exact .inl (.inr (.inl (h ▸ e)))
    · rw [h] at e; injection e with e; exact .inr (.inr (e ▸ h5))
  · rcases h2 with h | ⟨k, h, h5⟩
    · exact .inl (.inr (.inr (.inl (h ▸ e))))
    · rw [h] at e; injection e with e; exact .inr (.inr (e ▸ h5))
  · rcases List.mem_append.1 hr with hr | hr
    · exact .inl (.inr (.inr (.inr (.inl ⟨r, hr, e⟩))))
    · rw [List.mem_singleton.1 hr] at e; exact .inr (.inl e)
  · rcases List.mem_append.1 hr with hr | hr
    · exact .inl (.inr (.inr (.inr (.inr ⟨r, hr, e⟩))))
    · rw [List.mem_singleton.1 hr] at e; exact .inr (.inr (h3 m e))
theorem tk_end {w w2 w4 wz : World} {p mb x g N q : Nat} {P K P' K' : List Lk} {vo vw vo' vw' v : Value} {n n' : Int} {O Ws O' Ws' : List (Value × List Int)} (h : TS w p mb x g N P K q vo vw n O Ws) (hb : Below w.heap.size w w2) (k : PrN w2 p mb x g N P K P' K' w4) (e : EqL P' K') (hd2 : ∀ m, v.ownBlock = some m → ¬ PrS p mb x g P' K' m) (hvs : ∀ m, v.ownBlock = some m → PrS p mb x g P K m)
    (bk : BkAt wz q vo' vw' n' O' Ws') (hg : Grown w4 wz fun m => BkS2 q vo vw O Ws m ∨ v.ownBlock = some m) (hn : ∀ m, BkS2 q vo' vw' O' Ws' m → BkS2 q vo vw O Ws m ∨ v.ownBlock = some m ∨ w4.heap.size ≤ m) (hc : O'.length < 30 ∧ 0 ≤ n' ∧ n' < 16777216) :
    TS wz p mb x g N P' K' q vo' vw' n' O' Ws' ∧ Grown w wz (TU p mb x g P K q vo vw O Ws) ∧ ∀ m, TU p mb x g P' K' q vo' vw' O' Ws' m → TU p mb x g P K q vo vw O Ws m ∨ w.heap.size ≤ m := by
  obtain ⟨t4, g4, n4⟩ := h.after hb k e
  refine ⟨⟨t4.pr.grown hg fun m e1 => ?_, e, bk, fun m hm e1 => ?_, hc⟩, g4.trans (hg.mono fun m _ e1 => ?_), fun m hm => ?_⟩
  · rcases e1 with e1 | e1
    · exact t4.dj m e1
    · exact hd2 m e1
  · rcases hn m hm with e2 | e2 | e2
    · exact t4.dj m e2 e1
    · exact hd2 m e2 e1
    · have := t4.pr.lt m e1; omega
  · rcases e1 with e1 | e1
    · exact .inr e1
    · exact .inl (hvs m e1)
  · rcases hm with e1 | e1
    · exact n4 m (.inl e1)
    · rcases hn m e1 with e2 | e2 | e2
      · exact .inl (.inr e2)
      · exact .inl (.inl (hvs m e2))
      · exact .inr (Nat.le_trans g4.size e2)
set_option maxRecDepth 8000 in
set_option maxHeartbeats 1000000 in
theorem tka_ok (w : World) (p mb x g N q : Nat) (Ps Ks : List Lk) (vo vw : Value) (n : Int) (O Ws : List (Value × List Int)) (qe : Addr) (kd f t i j m by_ : Int) (vb : Value) (HT : Keep (TS w p mb x g N Ps Ks q vo vw n O Ws)) (HE : Keep (ErrI w qe)) (HZ : Keep (¬ PrS p mb x g Ps Ks 0)) (htk : tkE N Ks f t = 0) : Calls Tryd.prog 24 #[.agg #[.pointer (some ⟨p, 0, none⟩), .pointer (some ⟨x, 0, none⟩)], .agg #[.int .i64 kd, .int .i64 f, .int .i64 t, .int .i64 i, .int .i64 j, .int .i64 m, .int .u8 by_, vb], .pointer (some ⟨q, 0, none⟩)] w fun e w' => e = .returned (.bool true) ∧ ∃ P' K' vo' vw' n' O' Ws', TS w' p mb x g N P' K' q vo' vw' n' O' Ws' ∧ Grown w w' (TU p mb x g Ps Ks q vo vw O Ws) ∧ ∀ k, TU p mb x g P' K' q vo' vw' O' Ws' k → TU p mb x g Ps Ks q vo vw O Ws k ∨ w.heap.size ≤ k := by
  go_enter Tryd.func24, Tryd.ntmps24
  refine wp_seq_k fun K1 hK1 => ?_
  refine wp_region_list (WL.out ?_)
  have HR : Keep (PR w p mb x g N Ps Ks) := ⟨HT.out.pr⟩
  have HEq : Keep (EqL Ps Ks) := ⟨HT.out.eq⟩
  refine WL.box (by kernel_rfl) 34 (.tmp 0) rfl #[.pointer (some ⟨p, 0, none⟩), .pointer (some ⟨x, 0, none⟩)] rfl ?_
  have b1 := below_new w (.cells #[.pointer (some ⟨p, 0, none⟩), .pointer (some ⟨x, 0, none⟩)] 34)
  have Q3 := Keep.mk (Blk.new w 34 #[.pointer (some ⟨p, 0, none⟩), .pointer (some ⟨x, 0, none⟩)])
  generalize w.alloc (.cells #[.pointer (some ⟨p, 0, none⟩), .pointer (some ⟨x, 0, none⟩)] 34) = w1 at *
  obtain ⟨b3, hb3⟩ : ∃ z, Keep (z = w.heap.size) := ⟨_, ⟨rfl⟩⟩
  rw [← hb3.out] at Q3 ⊢
  simp only [Act.put, List.setIfInBounds_toArray, List.set_cons_zero, List.set_cons_succ]
  refine WL.box (by kernel_rfl) 41 (.tmp 1) rfl #[.int .i64 kd, .int .i64 f, .int .i64 t, .int .i64 i, .int .i64 j, .int .i64 m, .int .u8 by_, vb] rfl ?_
  have b2 := below_new w1 (.cells #[.int .i64 kd, .int .i64 f, .int .i64 t, .int .i64 i, .int .i64 j, .int .i64 m, .int .u8 by_, vb] 41)
  have Q4 := Keep.mk (Blk.new w1 41 #[.int .i64 kd, .int .i64 f, .int .i64 t, .int .i64 i, .int .i64 j, .int .i64 m, .int .u8 by_, vb])
  have Q3 := Keep.mk (Q3.out.alloc (.cells #[.int .i64 kd, .int .i64 f, .int .i64 t, .int .i64 i, .int .i64 j, .int .i64 m, .int .u8 by_, vb] 41))
  have hb2 := below_new w1 (.cells #[.int .i64 kd, .int .i64 f, .int .i64 t, .int .i64 i, .int .i64 j, .int .i64 m, .int .u8 by_, vb] 41)
  generalize w1.alloc (.cells #[.int .i64 kd, .int .i64 f, .int .i64 t, .int .i64 i, .int .i64 j, .int .i64 m, .int .u8 by_, vb] 41) = w2 at *
  obtain ⟨b4, hb4⟩ : ∃ z, Keep (z = w1.heap.size) := ⟨_, ⟨rfl⟩⟩
  rw [← hb4.out] at Q4 ⊢
  have HB2 : Keep (Below w.heap.size w w2) := ⟨b1.trans (b2.mono b1.size)⟩
  have R2 := Keep.mk (HR.out.below HB2.out)
  have HF3 : Keep (∀ k, PrS p mb x g Ps Ks k → k ≠ b3 ∧ k ≠ b4) := ⟨fun k hk => by have := HR.out.lt k hk; have := hb3.out; have := hb4.out; have := b1.size; omega⟩
  clear b1 b2 hb2
  have c3_0 := Q3.out.c 0 (rfl : _ = some (Value.pointer (some ⟨p, 0, none⟩)))
  have c3_1 := Q3.out.c 1 (rfl : _ = some (Value.pointer (some ⟨x, 0, none⟩)))
  have c4_0 := Q4.out.c 0 (rfl : _ = some (Value.int .i64 kd))
  have c4_1 := Q4.out.c 1 (rfl : _ = some (Value.int .i64 f))
  have c4_2 := Q4.out.c 2 (rfl : _ = some (Value.int .i64 t))
  have c4_3 := Q4.out.c 3 (rfl : _ = some (Value.int .i64 i))
  have c4_4 := Q4.out.c 4 (rfl : _ = some (Value.int .i64 j))
  have c4_5 := Q4.out.c 5 (rfl : _ = some (Value.int .i64 m))
  have c4_6 := Q4.out.c 6 (rfl : _ = some (Value.int .u8 by_))
  simp only [Act.put, List.setIfInBounds_toArray, List.set_cons_zero, List.set_cons_succ]
  refine WL.val (by kernel_rfl) (.bool false) (by go_simp) ?_
  simp only [Act.put, List.setIfInBounds_toArray, List.set_cons_zero, List.set_cons_succ]
  refine WL.nil ?_
  refine hK1 _ _ ?_
  refine wp_seq_k fun K2 hK2 => ?_
  refine wp_region_list (WL.out ?_)
  refine WL.val (by kernel_rfl) (.pointer (some ⟨b3, 0, none⟩)) (by go_simp) ?_
  simp only [Act.put, List.setIfInBounds_toArray, List.set_cons_zero, List.set_cons_succ]
  refine WL.val (by kernel_rfl) (.pointer (some ⟨p, 0, none⟩)) (by go_simp) ?_
  simp only [Act.put, List.setIfInBounds_toArray, List.set_cons_zero, List.set_cons_succ]
  refine WL.val (by kernel_rfl) (.pointer (some ⟨b4, 1, none⟩)) (by go_simp) ?_
  simp only [Act.put, List.setIfInBounds_toArray, List.set_cons_zero, List.set_cons_succ]
  refine WL.val (by kernel_rfl) (.int .i64 f) (by go_simp) ?_
  simp only [Act.put, List.setIfInBounds_toArray, List.set_cons_zero, List.set_cons_succ]
  refine WL.val (by kernel_rfl) (.pointer (some ⟨b4, 2, none⟩)) (by go_simp) ?_
  simp only [Act.put, List.setIfInBounds_toArray, List.set_cons_zero, List.set_cons_succ]
  refine WL.val (by kernel_rfl) (.int .i64 t) (by go_simp) ?_
  simp only [Act.put, List.setIfInBounds_toArray, List.set_cons_zero, List.set_cons_succ]
  refine WL.callF (by kernel_rfl) 16 _ _ rfl Tryd.in16 #[.pointer (some ⟨p, 0, none⟩), .int .i64 f, .int .i64 t] (by simp [Act.eval]) ?_
  refine (ptk w2 p mb N Ps f t qe ⟨HE.out.grown (Grown.below (S := fun _ => False) HB2.out) id⟩ ⟨fun e => HZ.out (.inl e)⟩ ⟨R2.out.pm⟩).mono ?_
  rintro e w3 ⟨v, ev, P1, rfl, he, n9, k2, k3⟩
  refine ⟨_, rfl, ?_⟩
  clear c3_0 c3_1 c4_0 c4_1 c4_2 c4_3 c4_4 c4_5 c4_6
  have N3 := Keep.mk (R2.out.prog n9)
  have X3 := Keep.mk (N3.out.gr.blk Q3.out fun e => (HF3.out _ e).1 rfl)
  have X4 := Keep.mk (N3.out.gr.blk Q4.out fun e => (HF3.out _ e).2 rfl)
  have He := Keep.mk he
  have Hk2 := Keep.mk k2
  have Hk3 := Keep.mk k3
  clear he n9 k2 k3
  have c3_0 := X3.out.c 0 (rfl : _ = some (Value.pointer (some ⟨p, 0, none⟩)))
  have c3_1 := X3.out.c 1 (rfl : _ = some (Value.pointer (some ⟨x, 0, none⟩)))
  have c4_0 := X4.out.c 0 (rfl : _ = some (Value.int .i64 kd))
  have c4_1 := X4.out.c 1 (rfl : _ = some (Value.int .i64 f))
  have c4_2 := X4.out.c 2 (rfl : _ = some (Value.int .i64 t))
  have c4_3 := X4.out.c 3 (rfl : _ = some (Value.int .i64 i))
  have c4_4 := X4.out.c 4 (rfl : _ = some (Value.int .i64 j))
  have c4_5 := X4.out.c 5 (rfl : _ = some (Value.int .i64 m))
  have c4_6 := X4.out.c 6 (rfl : _ = some (Value.int .u8 by_))
  simp only [Act.put, List.setIfInBounds_toArray, List.set_cons_zero, List.set_cons_succ]
  refine WL.val (by kernel_rfl) (.tuple #[v, ev]) (by go_simp) ?_
  simp only [Act.put, List.setIfInBounds_toArray, List.set_cons_zero, List.set_cons_succ]
  refine WL.val (by kernel_rfl) (v) (by go_simp) ?_
  simp only [Act.put, List.setIfInBounds_toArray, List.set_cons_zero, List.set_cons_succ]
  refine WL.val (by kernel_rfl) (ev) (by go_simp) ?_
  simp only [Act.put, List.setIfInBounds_toArray, List.set_cons_zero, List.set_cons_succ]
  refine WL.val (by kernel_rfl) (v) (by go_simp) ?_
  simp only [Act.put, List.setIfInBounds_toArray, List.set_cons_zero, List.set_cons_succ]
  refine WL.val (by kernel_rfl) (ev) (by go_simp) ?_
  simp only [Act.put, List.setIfInBounds_toArray, List.set_cons_zero, List.set_cons_succ]
  refine WL.nil ?_
  refine hK2 _ _ ?_
  refine wp_seq_k fun K3 hK3 => ?_
  refine wp_region_list (WL.out ?_)
  refine WL.val (by kernel_rfl) (.pointer (some ⟨b3, 1, none⟩)) (by go_simp) ?_
  simp only [Act.put, List.setIfInBounds_toArray, List.set_cons_zero, List.set_cons_succ]
  refine WL.val (by kernel_rfl) (.pointer (some ⟨x, 0, none⟩)) (by go_simp) ?_
  simp only [Act.put, List.setIfInBounds_toArray, List.set_cons_zero, List.set_cons_succ]
  refine WL.val (by kernel_rfl) (.pointer (some ⟨b4, 1, none⟩)) (by go_simp) ?_
  simp only [Act.put, List.setIfInBounds_toArray, List.set_cons_zero, List.set_cons_succ]
  refine WL.val (by kernel_rfl) (.int .i64 f) (by go_simp) ?_
  simp only [Act.put, List.setIfInBounds_toArray, List.set_cons_zero, List.set_cons_succ]
  refine WL.val (by kernel_rfl) (.pointer (some ⟨b4, 2, none⟩)) (by go_simp) ?_
  simp only [Act.put, List.setIfInBounds_toArray, List.set_cons_zero, List.set_cons_succ]
  refine WL.val (by kernel_rfl) (.int .i64 t) (by go_simp) ?_
  simp only [Act.put, List.setIfInBounds_toArray, List.set_cons_zero, List.set_cons_succ]
  refine WL.callF (by kernel_rfl) 44 _ _ rfl Tryd.in44 #[.pointer (some ⟨x, 0, none⟩), .int .i64 f, .int .i64 t] (by simp [Act.eval]) ?_
  refine (rtake_any w3 x g N Ks f t N3.out.at_.rm).mono ?_
  rintro e w4 ⟨y, K1, rfl, n2, d2, d3⟩
  refine ⟨_, rfl, ?_⟩
  clear c3_0 c3_1 c4_0 c4_1 c4_2 c4_3 c4_4 c4_5 c4_6
  have N4 := Keep.mk (N3.out.trans (N3.out.at_.ref n2))
  obtain ⟨hE, _, hok⟩ := eq_take HEq.out Hk2.out Hk3.out d2 d3
  obtain ⟨b, S, hOv, hRy, hvd⟩ := hok htk
  have HE4 := Keep.mk hE
  have hev : ev = .nilIface := by rw [He.out, HEq.out.tk, htk]; rfl
  have hth := tk_thr htk
  have hry := (N3.out.at_.rm.link hth).2.1.rows (y, b) (by rw [hRy]; exact List.mem_cons_self)
  have OV := Keep.mk (hOv.grown n2.gr fun k hk e => R2.out.dj k (hvd k hk).1 (.inr (.inl e)))
  have YV := Keep.mk (row_rm N3.out.at_.rm hth hRy n2.gr)
  have HY := Keep.mk hry.2
  have HD2 : Keep (∀ k, v.ownBlock = some k → ¬ PrS p mb x g P1 K1 k) := ⟨fun k hk e => by
    rcases e with e | e
    · exact (hvd k hk).2 e
    · rcases n2.new k e with e | e
      · exact R2.out.dj k (hvd k hk).1 e
      · have := (hOv.lt k hk); omega⟩
  have HD3 : Keep (∀ k, v.ownBlock = some k → ¬ BkS2 q vo vw O Ws k) := ⟨fun k hk e => HT.out.dj k e (.inl (hvd k hk).1)⟩
  have YVd : Keep (∀ k, y.ownBlock = some k → PrS p mb x g Ps Ks k) := ⟨fun k hk => .inr (.inr (.inr ⟨_, List.mem_of_getElem? (N3.out.at_.rm.link hth).1, _, by rw [hRy]; exact List.mem_cons_self, hk⟩))⟩
  have HVS : Keep (∀ k, v.ownBlock = some k → PrS p mb x g Ps Ks k) := ⟨fun k hk => .inl (hvd k hk).1⟩
  have YN : Keep (∀ k, y.ownBlock = some k → ¬ (BkS2 q vo vw O Ws k ∨ v.ownBlock = some k)) := ⟨fun k hk e => by
    rcases e with e | e
    · exact HT.out.dj k e (YVd.out k hk)
    · refine R2.out.dj k (hvd k e).1 ?_
      rcases YVd.out k hk with e2 | e2
      · exact absurd e2 (fun e3 => R2.out.dj k e3 (by exact .inr (.inr ⟨_, List.mem_of_getElem? (N3.out.at_.rm.link hth).1, _, by rw [hRy]; exact List.mem_cons_self, hk⟩)))
      · exact e2⟩
  have BK4 := Keep.mk ((HT.out.bk.below HB2.out).grown N4.out.gr fun k e e2 => HT.out.dj k e2 e)
  obtain ⟨va, vc, hv9⟩ := row_form OV.out.row
  obtain ⟨ya, yc, hy9⟩ := row_form YV.out
  obtain ⟨vn, hvn⟩ : ∃ z, Keep (b.length = z) := ⟨_, ⟨rfl⟩⟩
  rw [hvn.out] at hv9 hy9
  obtain ⟨oa, oc, hvo⟩ := owns_sl BK4.out.lo
  obtain ⟨wa_, wc_, hvw⟩ := owns_sl BK4.out.lw
  subst hv9 hy9 hvo hvw hev
  rw [htk]
  clear n2 d2 d3 hE hok hOv hRy hvd hry
  simp only [Act.put, List.setIfInBounds_toArray, List.set_cons_zero, List.set_cons_succ]
  refine WL.val (by kernel_rfl) (.tuple #[.slice ya vn yc, .int .i64 0]) (by go_simp) ?_
  simp only [Act.put, List.setIfInBounds_toArray, List.set_cons_zero, List.set_cons_succ]
  refine WL.val (by kernel_rfl) (.slice ya vn yc) (by go_simp) ?_
  simp only [Act.put, List.setIfInBounds_toArray, List.set_cons_zero, List.set_cons_succ]
  refine WL.val (by kernel_rfl) (.int .i64 0) (by go_simp) ?_
  simp only [Act.put, List.setIfInBounds_toArray, List.set_cons_zero, List.set_cons_succ]
  refine WL.val (by kernel_rfl) (.slice ya vn yc) (by go_simp) ?_
  simp only [Act.put, List.setIfInBounds_toArray, List.set_cons_zero, List.set_cons_succ]
  refine WL.val (by kernel_rfl) (.int .i64 0) (by go_simp) ?_
  simp only [Act.put, List.setIfInBounds_toArray, List.set_cons_zero, List.set_cons_succ]
  refine WL.nil ?_
  refine hK3 _ _ ?_
  refine wp_seq_k fun K4 hK4 => ?_
  refine wp_seq_k fun K5 hK5 => ?_
  refine wp_region_list (WL.out ?_)
  refine WL.val (by kernel_rfl) (.int .i64 0) (by go_simp) ?_
  simp only [Act.put, List.setIfInBounds_toArray, List.set_cons_zero, List.set_cons_succ]
  refine WL.val (by kernel_rfl) (.bool false) (by go_simp) ?_
  simp only [Act.put, List.setIfInBounds_toArray, List.set_cons_zero, List.set_cons_succ]
  refine WL.nil ?_
  refine hK5 _ _ ?_
  refine wp_cond_false rfl ?_
  refine wp_skip ?_
  refine hK4 _ _ ?_
  refine wp_seq_k fun K6 hK6 => ?_
  refine wp_region_list (WL.out ?_)
  refine WL.val (by kernel_rfl) (.slice va vn vc) (by go_simp) ?_
  simp only [Act.put, List.setIfInBounds_toArray, List.set_cons_zero, List.set_cons_succ]
  refine WL.val (by kernel_rfl) (.slice ya vn yc) (by go_simp) ?_
  simp only [Act.put, List.setIfInBounds_toArray, List.set_cons_zero, List.set_cons_succ]
  refine WL.callF (by kernel_rfl) 17 _ _ rfl Tryd.in17 #[.slice va vn vc, .slice ya vn yc] (by simp [Act.eval]) ?_
  refine (same_any _ _ b b w4 OV.out.row YV.out HY.out.2 HY.out.2).mono ?_
  rintro e w4_ ⟨rfl, hw_⟩
  refine ⟨_, rfl, ?_⟩
  have hw_ := hw_.symm
  subst hw_
  rw [show decide (b = b) = true by simp]
  simp only [Act.put, List.setIfInBounds_toArray, List.set_cons_zero, List.set_cons_succ]
  refine WL.val (by kernel_rfl) (.bool true) (by go_simp) ?_
  simp only [Act.put, List.setIfInBounds_toArray, List.set_cons_zero, List.set_cons_succ]
  refine WL.nil ?_
  refine hK6 _ _ ?_
  refine wp_seq_k fun K7 hK7 => ?_
  refine wp_region_list (WL.out ?_)
  refine WL.val (by kernel_rfl) (.pointer (some ⟨q, 0, none⟩)) (by go_simp) ?_
  simp only [Act.put, List.setIfInBounds_toArray, List.set_cons_zero, List.set_cons_succ]
  refine WL.val (by kernel_rfl) (.pointer (some ⟨q, 0, none⟩)) (by go_simp) ?_
  simp only [Act.put, List.setIfInBounds_toArray, List.set_cons_zero, List.set_cons_succ]
  refine WL.val (by kernel_rfl) (.pointer (some ⟨q, 0, none⟩)) (by go_simp) ?_
  simp only [Act.put, List.setIfInBounds_toArray, List.set_cons_zero, List.set_cons_succ]
  refine WL.val (by kernel_rfl) (.pointer (some ⟨q, 0, none⟩)) (by go_simp) ?_
  simp only [Act.put, List.setIfInBounds_toArray, List.set_cons_zero, List.set_cons_succ]
  have c_ := BK4.out.bq.c 0 (rfl : _ = some (Value.slice oa O.length oc))
  refine WL.val (by kernel_rfl) (.slice oa O.length oc) (by go_simp) ?_
  clear c_
  simp only [Act.put, List.setIfInBounds_toArray, List.set_cons_zero, List.set_cons_succ]
  refine WL.val (by kernel_rfl) (.slice va vn vc) (by go_simp) ?_
  simp only [Act.put, List.setIfInBounds_toArray, List.set_cons_zero, List.set_cons_succ]
  refine WL.bs (by kernel_rfl) 36 1 #[(0, .tmp 62)] rfl #[(0, .slice va vn vc)] (by simp [Act.eval]) _ _ (bsRw1 va vn vc w4) ?_
  have b5 := below_new w4 (.cells #[.slice va vn vc] 39)
  have B5 := Keep.mk (BK4.out.below b5)
  have HC5 : Keep ((w4.alloc (.cells #[.slice va vn vc] 39)).cell? ⟨w4.heap.size, 0, none⟩ = some (.slice va vn vc)) := ⟨(Blk.new w4 39 #[.slice va vn vc]).c 0 rfl⟩
  have G5 : Keep (Grown w4 (w4.alloc (.cells #[.slice va vn vc] 39)) fun k => (.slice oa O.length oc : Value).ownBlock = some k) := ⟨Grown.below b5⟩
  have hs5 : Keep (w4.heap.size ≤ (w4.alloc (.cells #[.slice va vn vc] 39)).heap.size) := ⟨b5.size⟩
  clear b5
  generalize w4.alloc (.cells #[.slice va vn vc] 39) = w5 at *
  obtain ⟨g5, hg5⟩ : ∃ z, Keep (z = w4.heap.size) := ⟨_, ⟨rfl⟩⟩
  rw [← hg5.out] at HC5 ⊢
  simp only [Act.put, List.setIfInBounds_toArray, List.set_cons_zero, List.set_cons_succ]
  refine WL.appRw (by kernel_rfl) (.tmp 61) (.tmp 63) rfl (.slice oa O.length oc) 0 O.length (O.map (·.1)) g5 va vn vc rfl rfl B5.out.lo HC5.out (by have := HT.out.cnt.1; omega) (Nat.zero_le _) ?_
  intro v6 w6 k1 k2 k3
  obtain ⟨pa, pc, hv6⟩ := owns_sl k1
  subst hv6
  have K1o := Keep.mk k1
  have G6 : Keep (Grown w4 w6 fun k => (.slice oa O.length oc : Value).ownBlock = some k) := ⟨G5.out.trans k2⟩
  have M6 : Keep ((Value.slice pa (O.length + 1) pc).ownBlock = (.slice oa O.length oc : Value).ownBlock ∨ ∃ k, (Value.slice pa (O.length + 1) pc).ownBlock = some k ∧ w4.heap.size ≤ k) := ⟨k3.imp id fun e => ⟨_, e, hs5.out⟩⟩
  have hq6 := G6.out.blk BK4.out.bq fun e => absurd ((owns_typ BK4.out.lo e).one BK4.out.bq.typ) (by decide)
  have c6_ := hq6.c 0 (rfl : _ = some (Value.slice oa O.length oc))
  have f6_ := hq6.frozen 0
  clear k1 k2 k3 hq6
  simp only [Act.put, List.setIfInBounds_toArray, List.set_cons_zero, List.set_cons_succ]
  refine WL.val (by kernel_rfl) (.pointer (some ⟨q, 0, none⟩)) (by go_simp) ?_
  simp only [Act.put, List.setIfInBounds_toArray, List.set_cons_zero, List.set_cons_succ]
  refine WL.val (by kernel_rfl) (.pointer (some ⟨q, 0, none⟩)) (by go_simp) ?_
  simp only [Act.put, List.setIfInBounds_toArray, List.set_cons_zero, List.set_cons_succ]
  refine WL.cell (by kernel_rfl) (w6.setCell ⟨q, 0, none⟩ (.slice pa (O.length + 1) pc)) (by go_simp) ?_
  clear c6_ f6_
  have BQ7 := Keep.mk (BK4.out.q.pushO K1o.out G6.out M6.out OV.out HY.out.1 HY.out.2 HD3.out HT.out.cnt.1)
  have G7 : Keep (Grown w4 (w6.setCell ⟨q, 0, none⟩ (.slice pa (O.length + 1) pc)) (fun k => BkS2 q (.slice oa O.length oc) (.slice wa_ Ws.length wc_) O Ws k ∨ (.slice va vn vc : Value).ownBlock = some k)) := ⟨(G6.out.mono fun k _ e => .inl (.inr (.inl e))).trans (Grown.setCell w6 q 0 _ fun _ => .inl (.inl rfl))⟩
  generalize w6.setCell ⟨q, 0, none⟩ (.slice pa (O.length + 1) pc) = w7 at *
  clear B5 HC5 G5 K1o G6
  simp only [Act.put]
  refine WL.nil ?_
  refine hK7 _ _ ?_
  refine wp_seq_k fun K8 hK8 => ?_
  have rest9 : ∀ (y67 y68 y69 y70 y71 y72 y73 y74 y75 y76 y77 y78 : Value) (vw9 : Value) (u : Value) (wz : World), Keep (BkQ wz q (.slice pa (O.length + 1) pc) vw9 n (O ++ [(.slice va vn vc, b)]) (Ws ++ [(u, b)])) → Keep (Grown w4 wz (fun k => BkS2 q (.slice oa O.length oc) (.slice wa_ Ws.length wc_) O Ws k ∨ (.slice va vn vc : Value).ownBlock = some k)) → Keep (∀ k, u.ownBlock = some k → w4.heap.size ≤ k) → Keep (vw9.ownBlock = (.slice wa_ Ws.length wc_ : Value).ownBlock ∨ ∃ k, vw9.ownBlock = some k ∧ w4.heap.size ≤ k) → K8 { tmps := #[.agg #[.pointer (some ⟨p, 0, none⟩), .pointer (some ⟨x, 0, none⟩)], .agg #[.int .i64 kd, .int .i64 f, .int .i64 t, .int .i64 i, .int .i64 j, .int .i64 m, .int .u8 by_, vb], .pointer (some ⟨q, 0, none⟩), .pointer (some ⟨b3, 0, none⟩), .pointer (some ⟨b4, 0, none⟩), undef, .bool false, .slice va vn vc, .nilIface, .slice ya vn yc, .int .i64 0, .bool true, undef, .tuple #[.slice va vn vc, .nilIface], .pointer (some ⟨b3, 0, none⟩), .pointer (some ⟨p, 0, none⟩), .pointer (some ⟨b4, 1, none⟩), .int .i64 f, .pointer (some ⟨b4, 2, none⟩), .int .i64 t, .tuple #[.slice va vn vc, .nilIface], .slice va vn vc, .nilIface, .tuple #[.slice ya vn yc, .int .i64 0], .pointer (some ⟨b3, 1, none⟩), .pointer (some ⟨x, 0, none⟩), .pointer (some ⟨b4, 1, none⟩), .int .i64 f, .pointer (some ⟨b4, 2, none⟩), .int .i64 t, .tuple #[.slice ya vn yc, .int .i64 0], .slice ya vn yc, .int .i64 0, .int .i64 0, .bool false, undef, undef, undef, undef, undef, undef, undef, undef, undef, undef, undef, undef, undef, undef, undef, undef, undef, undef, undef, .slice va vn vc, .slice ya vn yc, .bool true, .pointer (some ⟨q, 0, none⟩), .pointer (some ⟨q, 0, none⟩), .pointer (some ⟨q, 0, none⟩), .pointer (some ⟨q, 0, none⟩), .slice oa O.length oc, .slice va vn vc, .slice (some ⟨g5, 0, none⟩) 1 1, .slice pa (O.length + 1) pc, .pointer (some ⟨q, 0, none⟩), .pointer (some ⟨q, 0, none⟩), y67, y68, y69, y70, y71, y72, y73, y74, y75, y76, y77, y78, undef, undef, undef, undef, undef, undef, undef, undef, undef, undef, undef, undef, undef, undef, undef, undef, undef, undef, undef, undef, undef, undef, undef, undef, undef, undef, undef, undef, undef, undef, undef, undef, undef, undef, undef, undef, undef, undef, undef, undef, undef, undef], defers := [] } wz := by
    intro y67 y68 y69 y70 y71 y72 y73 y74 y75 y76 y77 y78 vw9 u wz BQ9 G9 UF9 M9
    refine hK8 _ _ ?_
    refine wp_seq_k fun K9 hK9 => ?_
    refine wp_region_list (WL.out ?_)
    refine WL.val (by kernel_rfl) (.pointer (some ⟨q, 0, none⟩)) (by go_simp) ?_
    simp only [Act.put, List.setIfInBounds_toArray, List.set_cons_zero, List.set_cons_succ]
    refine WL.val (by kernel_rfl) (.pointer (some ⟨q, 0, none⟩)) (by go_simp) ?_
    simp only [Act.put, List.setIfInBounds_toArray, List.set_cons_zero, List.set_cons_succ]
    refine WL.val (by kernel_rfl) (.pointer (some ⟨q, 2, none⟩)) (by go_simp) ?_
    simp only [Act.put, List.setIfInBounds_toArray, List.set_cons_zero, List.set_cons_succ]
    have c_ := BQ9.out.bq.c 2 (rfl : _ = some (Value.int .i64 n))
    refine WL.val (by kernel_rfl) (.int .i64 n) (by go_simp) ?_
    clear c_
    simp only [Act.put, List.setIfInBounds_toArray, List.set_cons_zero, List.set_cons_succ]
    refine WL.val (by kernel_rfl) (.slice ya vn yc) (by go_simp) ?_
    simp only [Act.put, List.setIfInBounds_toArray, List.set_cons_zero, List.set_cons_succ]
    refine WL.val (by kernel_rfl) (.int .i64 (vn : Int)) (by go_simp) ?_
    simp only [Act.put, List.setIfInBounds_toArray, List.set_cons_zero, List.set_cons_succ]
    have hcn := HT.out.cnt
    have hvb : b.length ≤ 2097194 := HY.out.1
    have hvn2 := hvn.out
    have hw9 : IntKind.i64.wrap (n + (vn : Int)) = n + (vn : Int) := by rw [IntKind.wrap_i64]; omega
    clear hvn2
    refine WL.val (by kernel_rfl) (.int .i64 (n + (vn : Int))) (by go_simp) ?_
    clear hw9 hcn hvb
    simp only [Act.put, List.setIfInBounds_toArray, List.set_cons_zero, List.set_cons_succ]
    refine WL.val (by kernel_rfl) (.pointer (some ⟨q, 0, none⟩)) (by go_simp) ?_
    simp only [Act.put, List.setIfInBounds_toArray, List.set_cons_zero, List.set_cons_succ]
    refine WL.val (by kernel_rfl) (.pointer (some ⟨q, 2, none⟩)) (by go_simp) ?_
    simp only [Act.put, List.setIfInBounds_toArray, List.set_cons_zero, List.set_cons_succ]
    have c_ := BQ9.out.bq.c 2 (rfl : _ = some (Value.int .i64 n))
    have f_ := BQ9.out.bq.frozen 2
    refine WL.cell (by kernel_rfl) (wz.setCell ⟨q, 2, none⟩ (.int .i64 (n + (vn : Int)))) (by go_simp) ?_
    clear c_ f_
    have BQ10 := Keep.mk (BQ9.out.setN (n + (vn : Int)))
    have G10 : Keep (Grown w4 (wz.setCell ⟨q, 2, none⟩ (.int .i64 (n + (vn : Int)))) (fun k => BkS2 q (.slice oa O.length oc) (.slice wa_ Ws.length wc_) O Ws k ∨ (.slice va vn vc : Value).ownBlock = some k)) := ⟨G9.out.trans (Grown.setCell wz q 2 _ fun _ => .inl (.inl rfl))⟩
    have BK10 := Keep.mk (BQ10.out.at (by rw [List.map_append, List.map_append, HT.out.bk.eq]; rfl))
    generalize wz.setCell ⟨q, 2, none⟩ (.int .i64 (n + (vn : Int))) = w10 at *
    clear BQ9 G9 BQ10
    simp only [Act.put]
    refine WL.nil ?_
    refine hK9 _ _ ?_
    refine wp_seq_k fun K10 hK10 => ?_
    refine wp_seq_k fun K11 hK11 => ?_
    refine wp_region_list (WL.out ?_)
    refine WL.val (by kernel_rfl) (.pointer (some ⟨q, 0, none⟩)) (by go_simp) ?_
    simp only [Act.put, List.setIfInBounds_toArray, List.set_cons_zero, List.set_cons_succ]
    refine WL.val (by kernel_rfl) (.pointer (some ⟨q, 0, none⟩)) (by go_simp) ?_
    simp only [Act.put, List.setIfInBounds_toArray, List.set_cons_zero, List.set_cons_succ]
    refine WL.val (by kernel_rfl) (.pointer (some ⟨q, 0, none⟩)) (by go_simp) ?_
    simp only [Act.put, List.setIfInBounds_toArray, List.set_cons_zero, List.set_cons_succ]
    have c_ := BK10.out.bq.c 0 (rfl : _ = some (Value.slice pa (O.length + 1) pc))
    refine WL.val (by kernel_rfl) (.slice pa (O.length + 1) pc) (by go_simp) ?_
    clear c_
    simp only [Act.put, List.setIfInBounds_toArray, List.set_cons_zero, List.set_cons_succ]
    refine WL.val (by kernel_rfl) (.int .i64 ((O.length + 1 : Nat) : Int)) (by go_simp) ?_
    simp only [Act.put, List.setIfInBounds_toArray, List.set_cons_zero, List.set_cons_succ]
    by_cases h11_5 : 30 ≤ O.length + 1
    · have hx1 : ((O.length : Int) + 1 ≥ 30) := by omega
      have hx2 : ((30 : Int) ≤ (O.length : Int) + 1) := by omega
      refine WL.val (by kernel_rfl) (.bool true) (by go_simp) ?_
      simp only [Act.put, List.setIfInBounds_toArray, List.set_cons_zero, List.set_cons_succ]
      refine WL.val (by kernel_rfl) (.bool true) (by go_simp) ?_
      simp only [Act.put, List.setIfInBounds_toArray, List.set_cons_zero, List.set_cons_succ]
      refine WL.skip (by kernel_rfl) ?_
      simp only [Act.put, List.setIfInBounds_toArray, List.set_cons_zero, List.set_cons_succ]
      refine WL.skip (by kernel_rfl) ?_
      simp only [Act.put, List.setIfInBounds_toArray, List.set_cons_zero, List.set_cons_succ]
      refine WL.skip (by kernel_rfl) ?_
      simp only [Act.put, List.setIfInBounds_toArray, List.set_cons_zero, List.set_cons_succ]
      refine WL.skip (by kernel_rfl) ?_
      simp only [Act.put, List.setIfInBounds_toArray, List.set_cons_zero, List.set_cons_succ]
      refine WL.skip (by kernel_rfl) ?_
      simp only [Act.put, List.setIfInBounds_toArray, List.set_cons_zero, List.set_cons_succ]
      refine WL.val (by kernel_rfl) (.bool true) (by go_simp) ?_
      simp only [Act.put, List.setIfInBounds_toArray, List.set_cons_zero, List.set_cons_succ]
      refine WL.nil ?_
      refine hK11 _ _ ?_
      refine wp_cond_true rfl ?_
      refine wp_seq_k fun K12 hK12 => ?_
      refine wp_region_list (WL.out ?_)
      refine WL.val (by kernel_rfl) (.pointer (some ⟨q, 0, none⟩)) (by go_simp) ?_
      simp only [Act.put, List.setIfInBounds_toArray, List.set_cons_zero, List.set_cons_succ]
      refine WL.callF (by kernel_rfl) 14 _ _ rfl Tryd.in14 #[.pointer (some ⟨q, 0, none⟩)] (by simp [Act.eval]) ?_
      refine (apart_any BK10.out).mono ?_
      rintro e w11 ⟨rfl, hga⟩
      refine ⟨_, rfl, ?_⟩
      have HGa := Keep.mk hga
      have Q11 := Keep.mk (hga.blk BK10.out.bq fun ⟨r, hr, e⟩ => absurd ((owns_typ (BK10.out.ro r hr).1 e).one BK10.out.bq.typ) (by decide))
      clear hga
      simp only [Act.put, List.setIfInBounds_toArray, List.set_cons_zero, List.set_cons_succ]
      refine WL.val (by kernel_rfl) (.bool true) (by go_simp) ?_
      simp only [Act.put, List.setIfInBounds_toArray, List.set_cons_zero, List.set_cons_succ]
      refine WL.nil ?_
      refine hK12 _ _ ?_
      refine wp_seq_k fun K13 hK13 => ?_
      refine wp_region_list (WL.out ?_)
      refine WL.val (by kernel_rfl) (.bool true) (by go_simp) ?_
      simp only [Act.put, List.setIfInBounds_toArray, List.set_cons_zero, List.set_cons_succ]
      refine WL.val (by kernel_rfl) (.bool true) (by go_simp) ?_
      simp only [Act.put, List.setIfInBounds_toArray, List.set_cons_zero, List.set_cons_succ]
      refine WL.val (by kernel_rfl) (.bool true) (by go_simp) ?_
      simp only [Act.put, List.setIfInBounds_toArray, List.set_cons_zero, List.set_cons_succ]
      refine WL.val (by kernel_rfl) (.bool true) (by go_simp) ?_
      simp only [Act.put, List.setIfInBounds_toArray, List.set_cons_zero, List.set_cons_succ]
      refine WL.val (by kernel_rfl) (.bool true) (by go_simp) ?_
      simp only [Act.put, List.setIfInBounds_toArray, List.set_cons_zero, List.set_cons_succ]
      refine WL.nil ?_
      refine hK13 _ _ ?_
      refine wp_seq_k fun K14 hK14 => ?_
      refine wp_region_list (WL.out ?_)
      refine WL.val (by kernel_rfl) (.pointer (some ⟨q, 0, none⟩)) (by go_simp) ?_
      simp only [Act.put, List.setIfInBounds_toArray, List.set_cons_zero, List.set_cons_succ]
      refine WL.val (by kernel_rfl) (.pointer (some ⟨q, 0, none⟩)) (by go_simp) ?_
      simp only [Act.put, List.setIfInBounds_toArray, List.set_cons_zero, List.set_cons_succ]
      refine WL.val (by kernel_rfl) (.pointer (some ⟨q, 0, none⟩)) (by go_simp) ?_
      simp only [Act.put, List.setIfInBounds_toArray, List.set_cons_zero, List.set_cons_succ]
      have c_ := Q11.out.c 0 (rfl : _ = some (Value.slice pa (O.length + 1) pc))
      have f_ := Q11.out.frozen 0
      refine WL.cell (by kernel_rfl) (w11.setCell ⟨q, 0, none⟩ (.slice none 0 0)) (by go_simp) ?_
      clear c_ f_
      have Q12 := Keep.mk (Q11.out.set 0 (.slice none 0 0))
      simp only [Act.put]
      refine WL.nil ?_
      refine hK14 _ _ ?_
      refine wp_seq_k fun K15 hK15 => ?_
      refine wp_region_list (WL.out ?_)
      refine WL.val (by kernel_rfl) (.pointer (some ⟨q, 0, none⟩)) (by go_simp) ?_
      simp only [Act.put, List.setIfInBounds_toArray, List.set_cons_zero, List.set_cons_succ]
      refine WL.val (by kernel_rfl) (.pointer (some ⟨q, 0, none⟩)) (by go_simp) ?_
      simp only [Act.put, List.setIfInBounds_toArray, List.set_cons_zero, List.set_cons_succ]
      refine WL.val (by kernel_rfl) (.pointer (some ⟨q, 1, none⟩)) (by go_simp) ?_
      simp only [Act.put, List.setIfInBounds_toArray, List.set_cons_zero, List.set_cons_succ]
      have c_ : (w11.setCell ⟨q, 0, none⟩ (.slice none 0 0)).cell? ⟨q, 1, none⟩ = some vw9 := Q12.out.c 1 (by simp)
      have f_ := Q12.out.frozen 1
      obtain ⟨z1, z2, z3, hz9⟩ : ∃ a b c, vw9 = .slice a b c := (owns_sl BK10.out.lw).imp fun a ⟨c, h⟩ => ⟨_, c, h⟩
      rw [hz9] at c_
      refine WL.cell (by kernel_rfl) ((w11.setCell ⟨q, 0, none⟩ (.slice none 0 0)).setCell ⟨q, 1, none⟩ (.slice none 0 0)) (by go_simp) ?_
      clear c_ f_
      have Q13 := Keep.mk (Q12.out.set 1 (.slice none 0 0))
      clear hz9
      simp only [Act.put]
      refine WL.nil ?_
      refine hK15 _ _ ?_
      refine wp_region_list (WL.out ?_)
      refine WL.val (by kernel_rfl) (.pointer (some ⟨q, 0, none⟩)) (by go_simp) ?_
      simp only [Act.put, List.setIfInBounds_toArray, List.set_cons_zero, List.set_cons_succ]
      refine WL.val (by kernel_rfl) (.pointer (some ⟨q, 0, none⟩)) (by go_simp) ?_
      simp only [Act.put, List.setIfInBounds_toArray, List.set_cons_zero, List.set_cons_succ]
      refine WL.val (by kernel_rfl) (.pointer (some ⟨q, 2, none⟩)) (by go_simp) ?_
      simp only [Act.put, List.setIfInBounds_toArray, List.set_cons_zero, List.set_cons_succ]
      have c_ : ((w11.setCell ⟨q, 0, none⟩ (.slice none 0 0)).setCell ⟨q, 1, none⟩ (.slice none 0 0)).cell? ⟨q, 2, none⟩ = some (.int .i64 (n + (vn : Int))) := Q13.out.c 2 (by simp)
      have f_ := Q13.out.frozen 2
      refine WL.cell (by kernel_rfl) (((w11.setCell ⟨q, 0, none⟩ (.slice none 0 0)).setCell ⟨q, 1, none⟩ (.slice none 0 0)).setCell ⟨q, 2, none⟩ (.int .i64 0)) (by go_simp) ?_
      clear c_ f_
      have Q14 : Keep (Blk (((w11.setCell ⟨q, 0, none⟩ (.slice none 0 0)).setCell ⟨q, 1, none⟩ (.slice none 0 0)).setCell ⟨q, 2, none⟩ (.int .i64 0)) q 38 #[.slice none 0 0, .slice none 0 0, .int .i64 0]) := ⟨by have h := Q13.out.set 2 (.int .i64 0); simpa using h⟩
      have G14 : Keep (Grown w4 (((w11.setCell ⟨q, 0, none⟩ (.slice none 0 0)).setCell ⟨q, 1, none⟩ (.slice none 0 0)).setCell ⟨q, 2, none⟩ (.int .i64 0)) (fun k => BkS2 q (.slice oa O.length oc) (.slice wa_ Ws.length wc_) O Ws k ∨ (.slice va vn vc : Value).ownBlock = some k)) := ⟨(((G10.out.trans (HGa.out.mono fun k _ ⟨r, hr, e⟩ => by
        rcases List.mem_append.1 hr with hr | hr
        · exact .inl (.inr (.inr (.inr (.inl ⟨r, hr, e⟩))))
        · rw [List.mem_singleton.1 hr] at e; exact .inr e)).trans (Grown.setCell _ q 0 _ fun _ => .inl (.inl rfl))).trans (Grown.setCell _ q 1 _ fun _ => .inl (.inl rfl))).trans (Grown.setCell _ q 2 _ fun _ => .inl (.inl rfl))⟩
      generalize ((w11.setCell ⟨q, 0, none⟩ (.slice none 0 0)).setCell ⟨q, 1, none⟩ (.slice none 0 0)).setCell ⟨q, 2, none⟩ (.int .i64 0) = w14 at *
      simp only [Act.put]
      refine WL.nil ?_
      refine hK10 _ _ ?_
      refine wp_seq_k fun K16 hK16 => ?_
      refine wp_region_list (WL.out ?_)
      refine WL.val (by kernel_rfl) (.bool true) (by go_simp) ?_
      simp only [Act.put, List.setIfInBounds_toArray, List.set_cons_zero, List.set_cons_succ]
      refine WL.val (by kernel_rfl) (.bool true) (by go_simp) ?_
      simp only [Act.put, List.setIfInBounds_toArray, List.set_cons_zero, List.set_cons_succ]
      refine WL.val (by kernel_rfl) (.nilIface) (by go_simp) ?_
      simp only [Act.put, List.setIfInBounds_toArray, List.set_cons_zero, List.set_cons_succ]
      refine WL.val (by kernel_rfl) (.bool true) (by have h := fun w => eq_nn w; go_simp) ?_
      simp only [Act.put, List.setIfInBounds_toArray, List.set_cons_zero, List.set_cons_succ]
      refine WL.val (by kernel_rfl) (.bool true) (by go_simp) ?_
      simp only [Act.put, List.setIfInBounds_toArray, List.set_cons_zero, List.set_cons_succ]
      refine WL.val (by kernel_rfl) (.bool true) (by go_simp) ?_
      simp only [Act.put, List.setIfInBounds_toArray, List.set_cons_zero, List.set_cons_succ]
      refine WL.nil ?_
      refine hK16 _ _ ?_
      refine wp_ret ?_
      go_ret
      exact ⟨rfl, P1, K1, _, _, _, [], [], tk_end HT.out HB2.out N4.out HE4.out HD2.out HVS.out (bk_nil Q14.out) G14.out (fun m hm => .inl (.inl (bks_nil hm))) ⟨by decide, by decide, by decide⟩⟩
    · have hx1 : ¬ ((O.length : Int) + 1 ≥ 30) := by omega
      have hx2 : ¬ ((30 : Int) ≤ (O.length : Int) + 1) := by omega
      refine WL.val (by kernel_rfl) (.bool false) (by go_simp) ?_
      simp only [Act.put, List.setIfInBounds_toArray, List.set_cons_zero, List.set_cons_succ]
      refine WL.val (by kernel_rfl) (.bool false) (by go_simp) ?_
      simp only [Act.put, List.setIfInBounds_toArray, List.set_cons_zero, List.set_cons_succ]
      refine WL.val (by kernel_rfl) (.pointer (some ⟨q, 0, none⟩)) (by go_simp) ?_
      simp only [Act.put, List.setIfInBounds_toArray, List.set_cons_zero, List.set_cons_succ]
      refine WL.val (by kernel_rfl) (.pointer (some ⟨q, 0, none⟩)) (by go_simp) ?_
      simp only [Act.put, List.setIfInBounds_toArray, List.set_cons_zero, List.set_cons_succ]
      refine WL.val (by kernel_rfl) (.pointer (some ⟨q, 2, none⟩)) (by go_simp) ?_
      simp only [Act.put, List.setIfInBounds_toArray, List.set_cons_zero, List.set_cons_succ]
      have c_ := BK10.out.bq.c 2 (rfl : _ = some (Value.int .i64 (n + (vn : Int))))
      refine WL.val (by kernel_rfl) (.int .i64 (n + (vn : Int))) (by go_simp) ?_
      clear c_
      simp only [Act.put, List.setIfInBounds_toArray, List.set_cons_zero, List.set_cons_succ]
      by_cases h11_11 : 16777216 ≤ n + (vn : Int)
      · have hx3 : (n + (vn : Int) ≥ 16777216) := by omega
        refine WL.val (by kernel_rfl) (.bool true) (by go_simp) ?_
        simp only [Act.put, List.setIfInBounds_toArray, List.set_cons_zero, List.set_cons_succ]
        refine WL.val (by kernel_rfl) (.bool true) (by go_simp) ?_
        simp only [Act.put, List.setIfInBounds_toArray, List.set_cons_zero, List.set_cons_succ]
        refine WL.nil ?_
        refine hK11 _ _ ?_
        refine wp_cond_true rfl ?_
        refine wp_seq_k fun K17 hK17 => ?_
        refine wp_region_list (WL.out ?_)
        refine WL.val (by kernel_rfl) (.pointer (some ⟨q, 0, none⟩)) (by go_simp) ?_
        simp only [Act.put, List.setIfInBounds_toArray, List.set_cons_zero, List.set_cons_succ]
        refine WL.callF (by kernel_rfl) 14 _ _ rfl Tryd.in14 #[.pointer (some ⟨q, 0, none⟩)] (by simp [Act.eval]) ?_
        refine (apart_any BK10.out).mono ?_
        rintro e w11 ⟨rfl, hga⟩
        refine ⟨_, rfl, ?_⟩
        have HGa := Keep.mk hga
        have Q11 := Keep.mk (hga.blk BK10.out.bq fun ⟨r, hr, e⟩ => absurd ((owns_typ (BK10.out.ro r hr).1 e).one BK10.out.bq.typ) (by decide))
        clear hga
        simp only [Act.put, List.setIfInBounds_toArray, List.set_cons_zero, List.set_cons_succ]
        refine WL.val (by kernel_rfl) (.bool true) (by go_simp) ?_
        simp only [Act.put, List.setIfInBounds_toArray, List.set_cons_zero, List.set_cons_succ]
        refine WL.nil ?_
        refine hK17 _ _ ?_
        refine wp_seq_k fun K18 hK18 => ?_
        refine wp_region_list (WL.out ?_)
        refine WL.val (by kernel_rfl) (.bool true) (by go_simp) ?_
        simp only [Act.put, List.setIfInBounds_toArray, List.set_cons_zero, List.set_cons_succ]
        refine WL.val (by kernel_rfl) (.bool true) (by go_simp) ?_
        simp only [Act.put, List.setIfInBounds_toArray, List.set_cons_zero, List.set_cons_succ]
        refine WL.val (by kernel_rfl) (.bool true) (by go_simp) ?_
        simp only [Act.put, List.setIfInBounds_toArray, List.set_cons_zero, List.set_cons_succ]
        refine WL.val (by kernel_rfl) (.bool true) (by go_simp) ?_
        simp only [Act.put, List.setIfInBounds_toArray, List.set_cons_zero, List.set_cons_succ]
        refine WL.val (by kernel_rfl) (.bool true) (by go_simp) ?_
        simp only [Act.put, List.setIfInBounds_toArray, List.set_cons_zero, List.set_cons_succ]
        refine WL.nil ?_
        refine hK18 _ _ ?_
        refine wp_seq_k fun K19 hK19 => ?_
        refine wp_region_list (WL.out ?_)
        refine WL.val (by kernel_rfl) (.pointer (some ⟨q, 0, none⟩)) (by go_simp) ?_
        simp only [Act.put, List.setIfInBounds_toArray, List.set_cons_zero, List.set_cons_succ]
        refine WL.val (by kernel_rfl) (.pointer (some ⟨q, 0, none⟩)) (by go_simp) ?_
        simp only [Act.put, List.setIfInBounds_toArray, List.set_cons_zero, List.set_cons_succ]
        refine WL.val (by kernel_rfl) (.pointer (some ⟨q, 0, none⟩)) (by go_simp) ?_
        simp only [Act.put, List.setIfInBounds_toArray, List.set_cons_zero, List.set_cons_succ]
        have c_ := Q11.out.c 0 (rfl : _ = some (Value.slice pa (O.length + 1) pc))
        have f_ := Q11.out.frozen 0
        refine WL.cell (by kernel_rfl) (w11.setCell ⟨q, 0, none⟩ (.slice none 0 0)) (by go_simp) ?_
        clear c_ f_
        have Q12 := Keep.mk (Q11.out.set 0 (.slice none 0 0))
        simp only [Act.put]
        refine WL.nil ?_
        refine hK19 _ _ ?_
        refine wp_seq_k fun K20 hK20 => ?_
        refine wp_region_list (WL.out ?_)
        refine WL.val (by kernel_rfl) (.pointer (some ⟨q, 0, none⟩)) (by go_simp) ?_
        simp only [Act.put, List.setIfInBounds_toArray, List.set_cons_zero, List.set_cons_succ]
        refine WL.val (by kernel_rfl) (.pointer (some ⟨q, 0, none⟩)) (by go_simp) ?_
        simp only [Act.put, List.setIfInBounds_toArray, List.set_cons_zero, List.set_cons_succ]
        refine WL.val (by kernel_rfl) (.pointer (some ⟨q, 1, none⟩)) (by go_simp) ?_
        simp only [Act.put, List.setIfInBounds_toArray, List.set_cons_zero, List.set_cons_succ]
        have c_ : (w11.setCell ⟨q, 0, none⟩ (.slice none 0 0)).cell? ⟨q, 1, none⟩ = some vw9 := Q12.out.c 1 (by simp)
        have f_ := Q12.out.frozen 1
        obtain ⟨z1, z2, z3, hz9⟩ : ∃ a b c, vw9 = .slice a b c := (owns_sl BK10.out.lw).imp fun a ⟨c, h⟩ => ⟨_, c, h⟩
        rw [hz9] at c_
        refine WL.cell (by kernel_rfl) ((w11.setCell ⟨q, 0, none⟩ (.slice none 0 0)).setCell ⟨q, 1, none⟩ (.slice none 0 0)) (by go_simp) ?_
        clear c_ f_
        have Q13 := Keep.mk (Q12.out.set 1 (.slice none 0 0))
        clear hz9
        simp only [Act.put]
        refine WL.nil ?_
        refine hK20 _ _ ?_
        refine wp_region_list (WL.out ?_)
        refine WL.val (by kernel_rfl) (.pointer (some ⟨q, 0, none⟩)) (by go_simp) ?_
        simp only [Act.put, List.setIfInBounds_toArray, List.set_cons_zero, List.set_cons_succ]
        refine WL.val (by kernel_rfl) (.pointer (some ⟨q, 0, none⟩)) (by go_simp) ?_
        simp only [Act.put, List.setIfInBounds_toArray, List.set_cons_zero, List.set_cons_succ]
        refine WL.val (by kernel_rfl) (.pointer (some ⟨q, 2, none⟩)) (by go_simp) ?_
        simp only [Act.put, List.setIfInBounds_toArray, List.set_cons_zero, List.set_cons_succ]
        have c_ : ((w11.setCell ⟨q, 0, none⟩ (.slice none 0 0)).setCell ⟨q, 1, none⟩ (.slice none 0 0)).cell? ⟨q, 2, none⟩ = some (.int .i64 (n + (vn : Int))) := Q13.out.c 2 (by simp)
        have f_ := Q13.out.frozen 2
        refine WL.cell (by kernel_rfl) (((w11.setCell ⟨q, 0, none⟩ (.slice none 0 0)).setCell ⟨q, 1, none⟩ (.slice none 0 0)).setCell ⟨q, 2, none⟩ (.int .i64 0)) (by go_simp) ?_
        clear c_ f_
        have Q14 : Keep (Blk (((w11.setCell ⟨q, 0, none⟩ (.slice none 0 0)).setCell ⟨q, 1, none⟩ (.slice none 0 0)).setCell ⟨q, 2, none⟩ (.int .i64 0)) q 38 #[.slice none 0 0, .slice none 0 0, .int .i64 0]) := ⟨by have h := Q13.out.set 2 (.int .i64 0); simpa using h⟩
        have G14 : Keep (Grown w4 (((w11.setCell ⟨q, 0, none⟩ (.slice none 0 0)).setCell ⟨q, 1, none⟩ (.slice none 0 0)).setCell ⟨q, 2, none⟩ (.int .i64 0)) (fun k => BkS2 q (.slice oa O.length oc) (.slice wa_ Ws.length wc_) O Ws k ∨ (.slice va vn vc : Value).ownBlock = some k)) := ⟨(((G10.out.trans (HGa.out.mono fun k _ ⟨r, hr, e⟩ => by
          rcases List.mem_append.1 hr with hr | hr
          · exact .inl (.inr (.inr (.inr (.inl ⟨r, hr, e⟩))))
          · rw [List.mem_singleton.1 hr] at e; exact .inr e)).trans (Grown.setCell _ q 0 _ fun _ => .inl (.inl rfl))).trans (Grown.setCell _ q 1 _ fun _ => .inl (.inl rfl))).trans (Grown.setCell _ q 2 _ fun _ => .inl (.inl rfl))⟩
        generalize ((w11.setCell ⟨q, 0, none⟩ (.slice none 0 0)).setCell ⟨q, 1, none⟩ (.slice none 0 0)).setCell ⟨q, 2, none⟩ (.int .i64 0) = w14 at *
        simp only [Act.put]
        refine WL.nil ?_
        refine hK10 _ _ ?_
        refine wp_seq_k fun K21 hK21 => ?_
        refine wp_region_list (WL.out ?_)
        refine WL.val (by kernel_rfl) (.bool true) (by go_simp) ?_
        simp only [Act.put, List.setIfInBounds_toArray, List.set_cons_zero, List.set_cons_succ]
        refine WL.val (by kernel_rfl) (.bool true) (by go_simp) ?_
        simp only [Act.put, List.setIfInBounds_toArray, List.set_cons_zero, List.set_cons_succ]
        refine WL.val (by kernel_rfl) (.nilIface) (by go_simp) ?_
        simp only [Act.put, List.setIfInBounds_toArray, List.set_cons_zero, List.set_cons_succ]
        refine WL.val (by kernel_rfl) (.bool true) (by have h := fun w => eq_nn w; go_simp) ?_
        simp only [Act.put, List.setIfInBounds_toArray, List.set_cons_zero, List.set_cons_succ]
        refine WL.val (by kernel_rfl) (.bool true) (by go_simp) ?_
        simp only [Act.put, List.setIfInBounds_toArray, List.set_cons_zero, List.set_cons_succ]
        refine WL.val (by kernel_rfl) (.bool true) (by go_simp) ?_
        simp only [Act.put, List.setIfInBounds_toArray, List.set_cons_zero, List.set_cons_succ]
        refine WL.nil ?_
        refine hK21 _ _ ?_
        refine wp_ret ?_
        go_ret
        exact ⟨rfl, P1, K1, _, _, _, [], [], tk_end HT.out HB2.out N4.out HE4.out HD2.out HVS.out (bk_nil Q14.out) G14.out (fun m hm => .inl (.inl (bks_nil hm))) ⟨by decide, by decide, by decide⟩⟩
      · have hx3 : ¬ (n + (vn : Int) ≥ 16777216) := by omega
        refine WL.val (by kernel_rfl) (.bool false) (by go_simp) ?_
        simp only [Act.put, List.setIfInBounds_toArray, List.set_cons_zero, List.set_cons_succ]
        refine WL.val (by kernel_rfl) (.bool false) (by go_simp) ?_
        simp only [Act.put, List.setIfInBounds_toArray, List.set_cons_zero, List.set_cons_succ]
        refine WL.nil ?_
        refine hK11 _ _ ?_
        refine wp_cond_false rfl ?_
        refine wp_skip ?_
        refine hK10 _ _ ?_
        refine wp_seq_k fun K22 hK22 => ?_
        refine wp_region_list (WL.out ?_)
        refine WL.val (by kernel_rfl) (.bool true) (by go_simp) ?_
        simp only [Act.put, List.setIfInBounds_toArray, List.set_cons_zero, List.set_cons_succ]
        refine WL.val (by kernel_rfl) (.bool true) (by go_simp) ?_
        simp only [Act.put, List.setIfInBounds_toArray, List.set_cons_zero, List.set_cons_succ]
        refine WL.val (by kernel_rfl) (.nilIface) (by go_simp) ?_
        simp only [Act.put, List.setIfInBounds_toArray, List.set_cons_zero, List.set_cons_succ]
        refine WL.val (by kernel_rfl) (.bool true) (by have h := fun w => eq_nn w; go_simp) ?_
        simp only [Act.put, List.setIfInBounds_toArray, List.set_cons_zero, List.set_cons_succ]
        refine WL.val (by kernel_rfl) (.bool true) (by go_simp) ?_
        simp only [Act.put, List.setIfInBounds_toArray, List.set_cons_zero, List.set_cons_succ]
        refine WL.val (by kernel_rfl) (.bool true) (by go_simp) ?_
        simp only [Act.put, List.setIfInBounds_toArray, List.set_cons_zero, List.set_cons_succ]
        refine WL.nil ?_
        refine hK22 _ _ ?_
        refine wp_ret ?_
        have hcn := HT.out.cnt
        go_ret
        exact ⟨rfl, P1, K1, _, _, _, _, _, tk_end HT.out HB2.out N4.out HE4.out HD2.out HVS.out BK10.out G10.out (tk_new M6.out M9.out UF9.out) ⟨by rw [List.length_append]; simp; omega, by omega, by omega⟩⟩
  have rest9 := Keep.mk rest9
  refine wp_region_held_drew (S := fun _ => True) (by kernel_rfl) trivial (fun hHeld => ?_)
  have hd8 := (Below.refl w7.heap.size w7).drew
  have BQ8 := Keep.mk (BQ7.out.below hd8)
  have G8 : Keep (Grown w4 w7.drew (fun k => BkS2 q (.slice oa O.length oc) (.slice wa_ Ws.length wc_) O Ws k ∨ (.slice va vn vc : Value).ownBlock = some k)) := ⟨G7.out.drew⟩
  have hY8 : Keep (RowAt w7.drew (.slice ya vn yc) b) := ⟨(YV.out.grown G7.out fun k hk hl e => YN.out k hk e).below hd8⟩
  clear hd8
  generalize w7.drew = w8 at *
  have Cd : Keep (∀ wx, Below w8.heap.size w8 wx → wx.cell? ⟨q, 1, none⟩ = some (.slice wa_ Ws.length wc_)) := ⟨fun wx hb => (BQ8.out.below hb).bq.c 1 rfl⟩
  refine wpAnyH_take (i := 0) (oi := ⟨some 67, Op.move (Operand.tmp 2), 35, _, _, none⟩) (v := .pointer (some ⟨q, 0, none⟩)) rfl (by kernel_rfl) (by kernel_rfl) (by kernel_rfl) (fun _ _ _ h => h) (Or.inl ⟨by rfl, fun w hS => by go_simp⟩) hHeld ?_
  simp only [Act.put, List.setIfInBounds_toArray, List.set_cons_zero, List.set_cons_succ]
  refine wpAnyH_take (i := 1) (oi := ⟨some 68, Op.move (Operand.tmp 2), 35, _, _, none⟩) (v := .pointer (some ⟨q, 0, none⟩)) rfl (by kernel_rfl) (by kernel_rfl) (by kernel_rfl) (fun _ _ _ h => h) (Or.inl ⟨by rfl, fun w hS => by go_simp⟩) hHeld ?_
  simp only [Act.put, List.setIfInBounds_toArray, List.set_cons_zero, List.set_cons_succ]
  refine wpAnyH_take (i := 2) (oi := ⟨some 69, Op.nilCheck (Operand.tmp 68), 0, _, _, none⟩) (v := .pointer (some ⟨q, 0, none⟩)) rfl (by kernel_rfl) (by kernel_rfl) (by kernel_rfl) (fun _ _ _ h => h) (Or.inl ⟨by rfl, fun w hS => by go_simp⟩) hHeld ?_
  simp only [Act.put, List.setIfInBounds_toArray, List.set_cons_zero, List.set_cons_succ]
  refine wpAnyH_take (i := 3) (oi := ⟨some 70, Op.fieldAddr 38 (Operand.tmp 69) 1, 0, _, _, none⟩) (v := .pointer (some ⟨q, 1, none⟩)) rfl (by kernel_rfl) (by kernel_rfl) (by kernel_rfl) (fun _ _ _ h => h) (Or.inl ⟨by rfl, fun w hS => by go_simp⟩) hHeld ?_
  simp only [Act.put, List.setIfInBounds_toArray, List.set_cons_zero, List.set_cons_succ]
  refine wpAnyH_take (i := 6) (oi := ⟨some 73, Op.move (Operand.tmp 9), 39, _, _, none⟩) (v := .slice ya vn yc) rfl (by kernel_rfl) (by kernel_rfl) (by kernel_rfl) (fun _ _ _ h => h) (Or.inl ⟨by rfl, fun w hS => by go_simp⟩) hHeld ?_
  simp only [Act.put, List.setIfInBounds_toArray, List.set_cons_zero, List.set_cons_succ]
  refine wpAnyH_ready (rs := [4, 5]) (by kernel_rfl) (by simp) ?_
  refine AllReadyH.cons (o := ⟨some 71, Op.load 36 (Operand.tmp 70), 36, _, _, none⟩) rfl (fun K hK => ?_) (AllReadyH.cons (o := ⟨some 72, Op.buildSlice 39 0 #[], 39, _, _, none⟩) rfl (fun K hK => ?_) AllReadyH.nil)
  all_goals rw [if_pos (by rfl)]
  · have c_ := Cd.out w8 (Below.refl _ _)
    refine wp_val (.slice wa_ Ws.length wc_) (by go_simp) ?_
    clear c_
    refine hK _ _ trivial fun hHl => ?_
    clear hK
    simp only [Act.put, List.setIfInBounds_toArray, List.set_cons_zero, List.set_cons_succ]
    refine wpAnyH_ready (rs := [5]) (by kernel_rfl) (by simp) ?_
    refine AllReadyH.cons (o := ⟨some 72, Op.buildSlice 39 0 #[], 39, _, _, none⟩) rfl (fun K hK => ?_) AllReadyH.nil
    rw [if_pos (by rfl)]
    refine wp_bs 39 0 #[] rfl #[] (by simp) _ _ (bsE w8) ?_
    have hbA := below_new w8 (.cells #[] 5)
    have OA := Keep.mk (own_done w8 [] (by simp))
    change Keep (Own (w8.alloc (.cells #[] 5)) _ []) at OA
    have YA := Keep.mk (hY8.out.below hbA)
    generalize w8.alloc (.cells #[] 5) = wA at *
    obtain ⟨gA, hgA⟩ : ∃ z, Keep (z = w8.heap.size) := ⟨_, ⟨rfl⟩⟩
    rw [← hgA.out] at OA ⊢
    have bA := Keep.mk hbA
    clear hbA
    refine hK _ _ trivial fun hHa => ?_
    clear hK
    simp only [Act.put, List.setIfInBounds_toArray, List.set_cons_zero, List.set_cons_succ]
    refine wpAnyH_ready (rs := [7]) (by kernel_rfl) (by simp) ?_
    refine AllReadyH.cons (o := ⟨some 74, Op.call { callee := Callee.builtin Builtin.append, args := #[Operand.tmp 72, Operand.tmp 73], argTypes := #[39, 39] }, 39, _, _, none⟩) rfl (fun K hK => ?_) AllReadyH.nil
    rw [if_pos (by rfl)]
    refine wp_app (.tmp 72) (.tmp 73) rfl (.slice (some ⟨gA, 0, none⟩) 0 0) (.slice ya vn yc) [] b rfl rfl OA.out YA.out (by have hvb : b.length ≤ 2097194 := HY.out.1; simp only [List.length_nil]; omega) ?_
    intro u2 wB hp
    have OB : Keep (Own wB u2 b) := ⟨by have h := hp.1; rwa [List.nil_append] at h⟩
    have bB : Keep (Below w8.heap.size w8 wB) := ⟨bA.out.trans (hp.grown.to_below (fun k hk e => by simp [Value.ownBlock] at e; have := hgA.out; omega) bA.out.size)⟩
    have UF : Keep (∀ k, u2.ownBlock = some k → w8.heap.size ≤ k) := ⟨fun k hk => by
      rcases hp.moved with e | ⟨m, e, h2⟩
      · rw [e] at hk; simp [Value.ownBlock] at hk; have := hgA.out; omega
      · rw [e] at hk; injection hk with hk; subst hk; have := bA.out.size; omega⟩
    obtain ⟨ua, uc, hu9⟩ := row_form OB.out.row
    rw [hvn.out] at hu9
    subst hu9
    clear hp
    refine hK _ _ trivial fun hHb => ?_
    clear hK
    simp only [Act.put, List.setIfInBounds_toArray, List.set_cons_zero, List.set_cons_succ]
    refine wpAnyH_ready (rs := [8]) (by kernel_rfl) (by simp) ?_
    refine AllReadyH.cons (o := ⟨some 75, Op.buildSlice 36 1 #[(0, Operand.tmp 74)], 36, _, _, none⟩) rfl (fun K hK => ?_) AllReadyH.nil
    rw [if_pos (by rfl)]
    refine wp_bs 36 1 _ rfl #[(0, .slice ua vn uc)] (by simp [Act.eval]) _ _ (bsRw1 ua vn uc wB) ?_
    have hbC := below_new wB (.cells #[.slice ua vn uc] 39)
    have QC := Keep.mk (Blk.new wB 39 #[.slice ua vn uc])
    have OC := Keep.mk (owns_below OB.out hbC)
    have bC : Keep (Below w8.heap.size w8 (wB.alloc (.cells #[.slice ua vn uc] 39))) := ⟨bB.out.trans (hbC.mono bB.out.size)⟩
    generalize wB.alloc (.cells #[.slice ua vn uc] 39) = wC at *
    obtain ⟨gC, hgC⟩ : ∃ z, Keep (z = wB.heap.size) := ⟨_, ⟨rfl⟩⟩
    rw [← hgC.out] at QC ⊢
    clear hbC hgC
    refine hK _ _ trivial fun hHc => ?_
    clear hK
    simp only [Act.put, List.setIfInBounds_toArray, List.set_cons_zero, List.set_cons_succ]
    refine wpAnyH_ready (rs := [9]) (by kernel_rfl) (by simp) ?_
    refine AllReadyH.cons (o := ⟨some 76, Op.call { callee := Callee.builtin Builtin.append, args := #[Operand.tmp 71, Operand.tmp 75], argTypes := #[36, 36] }, 36, _, _, none⟩) rfl (fun K hK => ?_) AllReadyH.nil
    rw [if_pos (by rfl)]
    have BQC := Keep.mk (BQ8.out.below bC.out)
    refine wp_appRw (.tmp 71) (.tmp 75) rfl 0 (.slice wa_ Ws.length wc_) Ws.length (Ws.map (·.1)) gC ua vn uc rfl rfl BQC.out.lw (QC.out.c 0 rfl) (by have h1 := HT.out.cnt.1; have h2 := congrArg List.length HT.out.bk.eq; simp at h2; omega) (Nat.zero_le _) ?_
    intro v9 wD k1 k2 k3
    obtain ⟨za, zc, hv9⟩ := owns_sl k1
    subst hv9
    have KD1 := Keep.mk k1
    have KD2 := Keep.mk k2
    have KD3 : Keep ((Value.slice za (Ws.length + 1) zc).ownBlock = (.slice wa_ Ws.length wc_ : Value).ownBlock ∨ ∃ k, (Value.slice za (Ws.length + 1) zc).ownBlock = some k ∧ wC.heap.size ≤ k) := ⟨k3.imp id fun e => ⟨_, e, Nat.le_refl _⟩⟩
    have hqD := k2.blk BQC.out.bq fun e => absurd ((owns_typ BQC.out.lw e).one BQC.out.bq.typ) (by decide)
    have cD_ := hqD.c 1 (rfl : _ = some (Value.slice wa_ Ws.length wc_))
    have fD_ := hqD.frozen 1
    clear k1 k2 k3 hqD
    refine hK _ _ trivial fun hHd => ?_
    clear hK
    simp only [Act.put, List.setIfInBounds_toArray, List.set_cons_zero, List.set_cons_succ]
    refine wpAnyH_take (i := 10) (oi := ⟨some 77, Op.nilCheck (Operand.tmp 67), 0, _, _, none⟩) (v := .pointer (some ⟨q, 0, none⟩)) rfl (by kernel_rfl) (by kernel_rfl) (by kernel_rfl) (fun _ _ _ h => h) (Or.inl ⟨by rfl, fun w hS => by go_simp⟩) hHd ?_
    simp only [Act.put, List.setIfInBounds_toArray, List.set_cons_zero, List.set_cons_succ]
    refine wpAnyH_take (i := 11) (oi := ⟨some 78, Op.fieldAddr 38 (Operand.tmp 77) 1, 0, _, _, none⟩) (v := .pointer (some ⟨q, 1, none⟩)) rfl (by kernel_rfl) (by kernel_rfl) (by kernel_rfl) (fun _ _ _ h => h) (Or.inl ⟨by rfl, fun w hS => by go_simp⟩) hHd ?_
    simp only [Act.put, List.setIfInBounds_toArray, List.set_cons_zero, List.set_cons_succ]
    refine wpAnyH_ready (rs := [12]) (by kernel_rfl) (by simp) ?_
    refine AllReadyH.cons (o := ⟨none, Op.store 36 (Operand.tmp 78) (Operand.tmp 76), 0, _, _, none⟩) rfl (fun K hK => ?_) AllReadyH.nil
    rw [if_pos (by rfl)]
    refine wp_valS (wD.setCell ⟨q, 1, none⟩ (.slice za (Ws.length + 1) zc)) (by go_simp) ?_
    clear fD_ cD_
    have BQd := Keep.mk (BQC.out.pushW KD1.out KD2.out KD3.out OC.out HY.out.2)
    have Gd : Keep (Grown w4 (wD.setCell ⟨q, 1, none⟩ (.slice za (Ws.length + 1) zc)) (fun k => BkS2 q (.slice oa O.length oc) (.slice wa_ Ws.length wc_) O Ws k ∨ (.slice va vn vc : Value).ownBlock = some k)) := ⟨((G8.out.trans (Grown.below bC.out)).trans (KD2.out.mono fun k _ e => .inl (.inr (.inr (.inl e))))).trans (Grown.setCell wD q 1 _ fun _ => .inl (.inl rfl))⟩
    have UFd : Keep (∀ k, (Value.slice ua vn uc).ownBlock = some k → w4.heap.size ≤ k) := ⟨fun k hk => Nat.le_trans G8.out.size (UF.out k hk)⟩
    have Md : Keep ((Value.slice za (Ws.length + 1) zc).ownBlock = (.slice wa_ Ws.length wc_ : Value).ownBlock ∨ ∃ k, (Value.slice za (Ws.length + 1) zc).ownBlock = some k ∧ w4.heap.size ≤ k) := ⟨KD3.out.imp id fun ⟨k, e, h⟩ => ⟨k, e, Nat.le_trans (Nat.le_trans G8.out.size bC.out.size) h⟩⟩
    refine hK _ _ trivial fun hHe => ?_
    clear hK
    simp only [Act.put, List.setIfInBounds_toArray, List.set_cons_zero, List.set_cons_succ]
    refine wpAnyH_done (by kernel_rfl) ?_ _
    exact rest9.out _ _ _ _ _ _ _ _ _ _ _ _ _ _ _ BQd Gd UFd Md
  · refine wp_bs 39 0 #[] rfl #[] (by simp) _ _ (bsE w8) ?_
    have hbA := below_new w8 (.cells #[] 5)
    have OA := Keep.mk (own_done w8 [] (by simp))
    change Keep (Own (w8.alloc (.cells #[] 5)) _ []) at OA
    have YA := Keep.mk (hY8.out.below hbA)
    generalize w8.alloc (.cells #[] 5) = wA at *
    obtain ⟨gA, hgA⟩ : ∃ z, Keep (z = w8.heap.size) := ⟨_, ⟨rfl⟩⟩
    rw [← hgA.out] at OA ⊢
    have bA := Keep.mk hbA
    clear hbA
    refine hK _ _ trivial fun hHa => ?_
    clear hK
    simp only [Act.put, List.setIfInBounds_toArray, List.set_cons_zero, List.set_cons_succ]
    refine wpAnyH_ready (rs := [4, 7]) (by kernel_rfl) (by simp) ?_
    refine AllReadyH.cons (o := ⟨some 71, Op.load 36 (Operand.tmp 70), 36, _, _, none⟩) rfl (fun K hK => ?_) (AllReadyH.cons (o := ⟨some 74, Op.call { callee := Callee.builtin Builtin.append, args := #[Operand.tmp 72, Operand.tmp 73], argTypes := #[39, 39] }, 39, _, _, none⟩) rfl (fun K hK => ?_) AllReadyH.nil)
    all_goals rw [if_pos (by rfl)]
    · have c_ := Cd.out wA bA.out
      refine wp_val (.slice wa_ Ws.length wc_) (by go_simp) ?_
      clear c_
      refine hK _ _ trivial fun hHl => ?_
      clear hK
      simp only [Act.put, List.setIfInBounds_toArray, List.set_cons_zero, List.set_cons_succ]
      refine wpAnyH_ready (rs := [7]) (by kernel_rfl) (by simp) ?_
      refine AllReadyH.cons (o := ⟨some 74, Op.call { callee := Callee.builtin Builtin.append, args := #[Operand.tmp 72, Operand.tmp 73], argTypes := #[39, 39] }, 39, _, _, none⟩) rfl (fun K hK => ?_) AllReadyH.nil
      rw [if_pos (by rfl)]
      refine wp_app (.tmp 72) (.tmp 73) rfl (.slice (some ⟨gA, 0, none⟩) 0 0) (.slice ya vn yc) [] b rfl rfl OA.out YA.out (by have hvb : b.length ≤ 2097194 := HY.out.1; simp only [List.length_nil]; omega) ?_
      intro u2 wB hp
      have OB : Keep (Own wB u2 b) := ⟨by have h := hp.1; rwa [List.nil_append] at h⟩
      have bB : Keep (Below w8.heap.size w8 wB) := ⟨bA.out.trans (hp.grown.to_below (fun k hk e => by simp [Value.ownBlock] at e; have := hgA.out; omega) bA.out.size)⟩
      have UF : Keep (∀ k, u2.ownBlock = some k → w8.heap.size ≤ k) := ⟨fun k hk => by
        rcases hp.moved with e | ⟨m, e, h2⟩
        · rw [e] at hk; simp [Value.ownBlock] at hk; have := hgA.out; omega
        · rw [e] at hk; injection hk with hk; subst hk; have := bA.out.size; omega⟩
      obtain ⟨ua, uc, hu9⟩ := row_form OB.out.row
      rw [hvn.out] at hu9
      subst hu9
      clear hp
      refine hK _ _ trivial fun hHb => ?_
      clear hK
      simp only [Act.put, List.setIfInBounds_toArray, List.set_cons_zero, List.set_cons_succ]
      refine wpAnyH_ready (rs := [8]) (by kernel_rfl) (by simp) ?_
      refine AllReadyH.cons (o := ⟨some 75, Op.buildSlice 36 1 #[(0, Operand.tmp 74)], 36, _, _, none⟩) rfl (fun K hK => ?_) AllReadyH.nil
      rw [if_pos (by rfl)]
      refine wp_bs 36 1 _ rfl #[(0, .slice ua vn uc)] (by simp [Act.eval]) _ _ (bsRw1 ua vn uc wB) ?_
      have hbC := below_new wB (.cells #[.slice ua vn uc] 39)
      have QC := Keep.mk (Blk.new wB 39 #[.slice ua vn uc])
      have OC := Keep.mk (owns_below OB.out hbC)
      have bC : Keep (Below w8.heap.size w8 (wB.alloc (.cells #[.slice ua vn uc] 39))) := ⟨bB.out.trans (hbC.mono bB.out.size)⟩
      generalize wB.alloc (.cells #[.slice ua vn uc] 39) = wC at *
      obtain ⟨gC, hgC⟩ : ∃ z, Keep (z = wB.heap.size) := ⟨_, ⟨rfl⟩⟩
      rw [← hgC.out] at QC ⊢
      clear hbC hgC
      refine hK _ _ trivial fun hHc => ?_
      clear hK
      simp only [Act.put, List.setIfInBounds_toArray, List.set_cons_zero, List.set_cons_succ]
      refine wpAnyH_ready (rs := [9]) (by kernel_rfl) (by simp) ?_
      refine AllReadyH.cons (o := ⟨some 76, Op.call { callee := Callee.builtin Builtin.append, args := #[Operand.tmp 71, Operand.tmp 75], argTypes := #[36, 36] }, 36, _, _, none⟩) rfl (fun K hK => ?_) AllReadyH.nil
      rw [if_pos (by rfl)]
      have BQC := Keep.mk (BQ8.out.below bC.out)
      refine wp_appRw (.tmp 71) (.tmp 75) rfl 0 (.slice wa_ Ws.length wc_) Ws.length (Ws.map (·.1)) gC ua vn uc rfl rfl BQC.out.lw (QC.out.c 0 rfl) (by have h1 := HT.out.cnt.1; have h2 := congrArg List.length HT.out.bk.eq; simp at h2; omega) (Nat.zero_le _) ?_
      intro v9 wD k1 k2 k3
      obtain ⟨za, zc, hv9⟩ := owns_sl k1
      subst hv9
      have KD1 := Keep.mk k1
      have KD2 := Keep.mk k2
      have KD3 : Keep ((Value.slice za (Ws.length + 1) zc).ownBlock = (.slice wa_ Ws.length wc_ : Value).ownBlock ∨ ∃ k, (Value.slice za (Ws.length + 1) zc).ownBlock = some k ∧ wC.heap.size ≤ k) := ⟨k3.imp id fun e => ⟨_, e, Nat.le_refl _⟩⟩
      have hqD := k2.blk BQC.out.bq fun e => absurd ((owns_typ BQC.out.lw e).one BQC.out.bq.typ) (by decide)
      have cD_ := hqD.c 1 (rfl : _ = some (Value.slice wa_ Ws.length wc_))
      have fD_ := hqD.frozen 1
      clear k1 k2 k3 hqD
      refine hK _ _ trivial fun hHd => ?_
      clear hK
      simp only [Act.put, List.setIfInBounds_toArray, List.set_cons_zero, List.set_cons_succ]
      refine wpAnyH_take (i := 10) (oi := ⟨some 77, Op.nilCheck (Operand.tmp 67), 0, _, _, none⟩) (v := .pointer (some ⟨q, 0, none⟩)) rfl (by kernel_rfl) (by kernel_rfl) (by kernel_rfl) (fun _ _ _ h => h) (Or.inl ⟨by rfl, fun w hS => by go_simp⟩) hHd ?_
      simp only [Act.put, List.setIfInBounds_toArray, List.set_cons_zero, List.set_cons_succ]
      refine wpAnyH_take (i := 11) (oi := ⟨some 78, Op.fieldAddr 38 (Operand.tmp 77) 1, 0, _, _, none⟩) (v := .pointer (some ⟨q, 1, none⟩)) rfl (by kernel_rfl) (by kernel_rfl) (by kernel_rfl) (fun _ _ _ h => h) (Or.inl ⟨by rfl, fun w hS => by go_simp⟩) hHd ?_
      simp only [Act.put, List.setIfInBounds_toArray, List.set_cons_zero, List.set_cons_succ]
      refine wpAnyH_ready (rs := [12]) (by kernel_rfl) (by simp) ?_
      refine AllReadyH.cons (o := ⟨none, Op.store 36 (Operand.tmp 78) (Operand.tmp 76), 0, _, _, none⟩) rfl (fun K hK => ?_) AllReadyH.nil
      rw [if_pos (by rfl)]
      refine wp_valS (wD.setCell ⟨q, 1, none⟩ (.slice za (Ws.length + 1) zc)) (by go_simp) ?_
      clear fD_ cD_
      have BQd := Keep.mk (BQC.out.pushW KD1.out KD2.out KD3.out OC.out HY.out.2)
      have Gd : Keep (Grown w4 (wD.setCell ⟨q, 1, none⟩ (.slice za (Ws.length + 1) zc)) (fun k => BkS2 q (.slice oa O.length oc) (.slice wa_ Ws.length wc_) O Ws k ∨ (.slice va vn vc : Value).ownBlock = some k)) := ⟨((G8.out.trans (Grown.below bC.out)).trans (KD2.out.mono fun k _ e => .inl (.inr (.inr (.inl e))))).trans (Grown.setCell wD q 1 _ fun _ => .inl (.inl rfl))⟩
      have UFd : Keep (∀ k, (Value.slice ua vn uc).ownBlock = some k → w4.heap.size ≤ k) := ⟨fun k hk => Nat.le_trans G8.out.size (UF.out k hk)⟩
      have Md : Keep ((Value.slice za (Ws.length + 1) zc).ownBlock = (.slice wa_ Ws.length wc_ : Value).ownBlock ∨ ∃ k, (Value.slice za (Ws.length + 1) zc).ownBlock = some k ∧ w4.heap.size ≤ k) := ⟨KD3.out.imp id fun ⟨k, e, h⟩ => ⟨k, e, Nat.le_trans (Nat.le_trans G8.out.size bC.out.size) h⟩⟩
      refine hK _ _ trivial fun hHe => ?_
      clear hK
      simp only [Act.put, List.setIfInBounds_toArray, List.set_cons_zero, List.set_cons_succ]
      refine wpAnyH_done (by kernel_rfl) ?_ _
      exact rest9.out _ _ _ _ _ _ _ _ _ _ _ _ _ _ _ BQd Gd UFd Md
    · refine wp_app (.tmp 72) (.tmp 73) rfl (.slice (some ⟨gA, 0, none⟩) 0 0) (.slice ya vn yc) [] b rfl rfl OA.out YA.out (by have hvb : b.length ≤ 2097194 := HY.out.1; simp only [List.length_nil]; omega) ?_
      intro u2 wB hp
      have OB : Keep (Own wB u2 b) := ⟨by have h := hp.1; rwa [List.nil_append] at h⟩
      have bB : Keep (Below w8.heap.size w8 wB) := ⟨bA.out.trans (hp.grown.to_below (fun k hk e => by simp [Value.ownBlock] at e; have := hgA.out; omega) bA.out.size)⟩
      have UF : Keep (∀ k, u2.ownBlock = some k → w8.heap.size ≤ k) := ⟨fun k hk => by
        rcases hp.moved with e | ⟨m, e, h2⟩
        · rw [e] at hk; simp [Value.ownBlock] at hk; have := hgA.out; omega
        · rw [e] at hk; injection hk with hk; subst hk; have := bA.out.size; omega⟩
      obtain ⟨ua, uc, hu9⟩ := row_form OB.out.row
      rw [hvn.out] at hu9
      subst hu9
      clear hp
      refine hK _ _ trivial fun hHb => ?_
      clear hK
      simp only [Act.put, List.setIfInBounds_toArray, List.set_cons_zero, List.set_cons_succ]
      refine wpAnyH_ready (rs := [4, 8]) (by kernel_rfl) (by simp) ?_
      refine AllReadyH.cons (o := ⟨some 71, Op.load 36 (Operand.tmp 70), 36, _, _, none⟩) rfl (fun K hK => ?_) (AllReadyH.cons (o := ⟨some 75, Op.buildSlice 36 1 #[(0, Operand.tmp 74)], 36, _, _, none⟩) rfl (fun K hK => ?_) AllReadyH.nil)
      all_goals rw [if_pos (by rfl)]
      · have c_ := Cd.out wB bB.out
        refine wp_val (.slice wa_ Ws.length wc_) (by go_simp) ?_
        clear c_
        refine hK _ _ trivial fun hHl => ?_
        clear hK
        simp only [Act.put, List.setIfInBounds_toArray, List.set_cons_zero, List.set_cons_succ]
        refine wpAnyH_ready (rs := [8]) (by kernel_rfl) (by simp) ?_
        refine AllReadyH.cons (o := ⟨some 75, Op.buildSlice 36 1 #[(0, Operand.tmp 74)], 36, _, _, none⟩) rfl (fun K hK => ?_) AllReadyH.nil
        rw [if_pos (by rfl)]
        refine wp_bs 36 1 _ rfl #[(0, .slice ua vn uc)] (by simp [Act.eval]) _ _ (bsRw1 ua vn uc wB) ?_
        have hbC := below_new wB (.cells #[.slice ua vn uc] 39)
        have QC := Keep.mk (Blk.new wB 39 #[.slice ua vn uc])
        have OC := Keep.mk (owns_below OB.out hbC)
        have bC : Keep (Below w8.heap.size w8 (wB.alloc (.cells #[.slice ua vn uc] 39))) := ⟨bB.out.trans (hbC.mono bB.out.size)⟩
        generalize wB.alloc (.cells #[.slice ua vn uc] 39) = wC at *
        obtain ⟨gC, hgC⟩ : ∃ z, Keep (z = wB.heap.size) := ⟨_, ⟨rfl⟩⟩
        rw [← hgC.out] at QC ⊢
        clear hbC hgC
        refine hK _ _ trivial fun hHc => ?_
        clear hK
        simp only [Act.put, List.setIfInBounds_toArray, List.set_cons_zero, List.set_cons_succ]
        refine wpAnyH_ready (rs := [9]) (by kernel_rfl) (by simp) ?_
        refine AllReadyH.cons (o := ⟨some 76, Op.call { callee := Callee.builtin Builtin.append, args := #[Operand.tmp 71, Operand.tmp 75], argTypes := #[36, 36] }, 36, _, _, none⟩) rfl (fun K hK => ?_) AllReadyH.nil
        rw [if_pos (by rfl)]
        have BQC := Keep.mk (BQ8.out.below bC.out)
        refine wp_appRw (.tmp 71) (.tmp 75) rfl 0 (.slice wa_ Ws.length wc_) Ws.length (Ws.map (·.1)) gC ua vn uc rfl rfl BQC.out.lw (QC.out.c 0 rfl) (by have h1 := HT.out.cnt.1; have h2 := congrArg List.length HT.out.bk.eq; simp at h2; omega) (Nat.zero_le _) ?_
        intro v9 wD k1 k2 k3
        obtain ⟨za, zc, hv9⟩ := owns_sl k1
        subst hv9
        have KD1 := Keep.mk k1
        have KD2 := Keep.mk k2
        have KD3 : Keep ((Value.slice za (Ws.length + 1) zc).ownBlock = (.slice wa_ Ws.length wc_ : Value).ownBlock ∨ ∃ k, (Value.slice za (Ws.length + 1) zc).ownBlock = some k ∧ wC.heap.size ≤ k) := ⟨k3.imp id fun e => ⟨_, e, Nat.le_refl _⟩⟩
        have hqD := k2.blk BQC.out.bq fun e => absurd ((owns_typ BQC.out.lw e).one BQC.out.bq.typ) (by decide)
        have cD_ := hqD.c 1 (rfl : _ = some (Value.slice wa_ Ws.length wc_))
        have fD_ := hqD.frozen 1
        clear k1 k2 k3 hqD
        refine hK _ _ trivial fun hHd => ?_
        clear hK
        simp only [Act.put, List.setIfInBounds_toArray, List.set_cons_zero, List.set_cons_succ]
        refine wpAnyH_take (i := 10) (oi := ⟨some 77, Op.nilCheck (Operand.tmp 67), 0, _, _, none⟩) (v := .pointer (some ⟨q, 0, none⟩)) rfl (by kernel_rfl) (by kernel_rfl) (by kernel_rfl) (fun _ _ _ h => h) (Or.inl ⟨by rfl, fun w hS => by go_simp⟩) hHd ?_
        simp only [Act.put, List.setIfInBounds_toArray, List.set_cons_zero, List.set_cons_succ]
        refine wpAnyH_take (i := 11) (oi := ⟨some 78, Op.fieldAddr 38 (Operand.tmp 77) 1, 0, _, _, none⟩) (v := .pointer (some ⟨q, 1, none⟩)) rfl (by kernel_rfl) (by kernel_rfl) (by kernel_rfl) (fun _ _ _ h => h) (Or.inl ⟨by rfl, fun w hS => by go_simp⟩) hHd ?_
        simp only [Act.put, List.setIfInBounds_toArray, List.set_cons_zero, List.set_cons_succ]
        refine wpAnyH_ready (rs := [12]) (by kernel_rfl) (by simp) ?_
        refine AllReadyH.cons (o := ⟨none, Op.store 36 (Operand.tmp 78) (Operand.tmp 76), 0, _, _, none⟩) rfl (fun K hK => ?_) AllReadyH.nil
        rw [if_pos (by rfl)]
        refine wp_valS (wD.setCell ⟨q, 1, none⟩ (.slice za (Ws.length + 1) zc)) (by go_simp) ?_
        clear fD_ cD_
        have BQd := Keep.mk (BQC.out.pushW KD1.out KD2.out KD3.out OC.out HY.out.2)
        have Gd : Keep (Grown w4 (wD.setCell ⟨q, 1, none⟩ (.slice za (Ws.length + 1) zc)) (fun k => BkS2 q (.slice oa O.length oc) (.slice wa_ Ws.length wc_) O Ws k ∨ (.slice va vn vc : Value).ownBlock = some k)) := ⟨((G8.out.trans (Grown.below bC.out)).trans (KD2.out.mono fun k _ e => .inl (.inr (.inr (.inl e))))).trans (Grown.setCell wD q 1 _ fun _ => .inl (.inl rfl))⟩
        have UFd : Keep (∀ k, (Value.slice ua vn uc).ownBlock = some k → w4.heap.size ≤ k) := ⟨fun k hk => Nat.le_trans G8.out.size (UF.out k hk)⟩
        have Md : Keep ((Value.slice za (Ws.length + 1) zc).ownBlock = (.slice wa_ Ws.length wc_ : Value).ownBlock ∨ ∃ k, (Value.slice za (Ws.length + 1) zc).ownBlock = some k ∧ w4.heap.size ≤ k) := ⟨KD3.out.imp id fun ⟨k, e, h⟩ => ⟨k, e, Nat.le_trans (Nat.le_trans G8.out.size bC.out.size) h⟩⟩
        refine hK _ _ trivial fun hHe => ?_
        clear hK
        simp only [Act.put, List.setIfInBounds_toArray, List.set_cons_zero, List.set_cons_succ]
        refine wpAnyH_done (by kernel_rfl) ?_ _
        exact rest9.out _ _ _ _ _ _ _ _ _ _ _ _ _ _ _ BQd Gd UFd Md
      · refine wp_bs 36 1 _ rfl #[(0, .slice ua vn uc)] (by simp [Act.eval]) _ _ (bsRw1 ua vn uc wB) ?_
        have hbC := below_new wB (.cells #[.slice ua vn uc] 39)
        have QC := Keep.mk (Blk.new wB 39 #[.slice ua vn uc])
        have OC := Keep.mk (owns_below OB.out hbC)
        have bC : Keep (Below w8.heap.size w8 (wB.alloc (.cells #[.slice ua vn uc] 39))) := ⟨bB.out.trans (hbC.mono bB.out.size)⟩
        generalize wB.alloc (.cells #[.slice ua vn uc] 39) = wC at *
        obtain ⟨gC, hgC⟩ : ∃ z, Keep (z = wB.heap.size) := ⟨_, ⟨rfl⟩⟩
        rw [← hgC.out] at QC ⊢
        clear hbC hgC
        refine hK _ _ trivial fun hHc => ?_
        clear hK
        simp only [Act.put, List.setIfInBounds_toArray, List.set_cons_zero, List.set_cons_succ]
        refine wpAnyH_ready (rs := [4]) (by kernel_rfl) (by simp) ?_
        refine AllReadyH.cons (o := ⟨some 71, Op.load 36 (Operand.tmp 70), 36, _, _, none⟩) rfl (fun K hK => ?_) AllReadyH.nil
        rw [if_pos (by rfl)]
        have c_ := Cd.out wC bC.out
        refine wp_val (.slice wa_ Ws.length wc_) (by go_simp) ?_
        clear c_
        refine hK _ _ trivial fun hHl => ?_
        clear hK
        simp only [Act.put, List.setIfInBounds_toArray, List.set_cons_zero, List.set_cons_succ]
        refine wpAnyH_ready (rs := [9]) (by kernel_rfl) (by simp) ?_
        refine AllReadyH.cons (o := ⟨some 76, Op.call { callee := Callee.builtin Builtin.append, args := #[Operand.tmp 71, Operand.tmp 75], argTypes := #[36, 36] }, 36, _, _, none⟩) rfl (fun K hK => ?_) AllReadyH.nil
        rw [if_pos (by rfl)]
        have BQC := Keep.mk (BQ8.out.below bC.out)
        refine wp_appRw (.tmp 71) (.tmp 75) rfl 0 (.slice wa_ Ws.length wc_) Ws.length (Ws.map (·.1)) gC ua vn uc rfl rfl BQC.out.lw (QC.out.c 0 rfl) (by have h1 := HT.out.cnt.1; have h2 := congrArg List.length HT.out.bk.eq; simp at h2; omega) (Nat.zero_le _) ?_
        intro v9 wD k1 k2 k3
        obtain ⟨za, zc, hv9⟩ := owns_sl k1
        subst hv9
        have KD1 := Keep.mk k1
        have KD2 := Keep.mk k2
        have KD3 : Keep ((Value.slice za (Ws.length + 1) zc).ownBlock = (.slice wa_ Ws.length wc_ : Value).ownBlock ∨ ∃ k, (Value.slice za (Ws.length + 1) zc).ownBlock = some k ∧ wC.heap.size ≤ k) := ⟨k3.imp id fun e => ⟨_, e, Nat.le_refl _⟩⟩
        have hqD := k2.blk BQC.out.bq fun e => absurd ((owns_typ BQC.out.lw e).one BQC.out.bq.typ) (by decide)
        have cD_ := hqD.c 1 (rfl : _ = some (Value.slice wa_ Ws.length wc_))
        have fD_ := hqD.frozen 1
        clear k1 k2 k3 hqD
        refine hK _ _ trivial fun hHd => ?_
        clear hK
        simp only [Act.put, List.setIfInBounds_toArray, List.set_cons_zero, List.set_cons_succ]
        refine wpAnyH_take (i := 10) (oi := ⟨some 77, Op.nilCheck (Operand.tmp 67), 0, _, _, none⟩) (v := .pointer (some ⟨q, 0, none⟩)) rfl (by kernel_rfl) (by kernel_rfl) (by kernel_rfl) (fun _ _ _ h => h) (Or.inl ⟨by rfl, fun w hS => by go_simp⟩) hHd ?_
        simp only [Act.put, List.setIfInBounds_toArray, List.set_cons_zero, List.set_cons_succ]
        refine wpAnyH_take (i := 11) (oi := ⟨some 78, Op.fieldAddr 38 (Operand.tmp 77) 1, 0, _, _, none⟩) (v := .pointer (some ⟨q, 1, none⟩)) rfl (by kernel_rfl) (by kernel_rfl) (by kernel_rfl) (fun _ _ _ h => h) (Or.inl ⟨by rfl, fun w hS => by go_simp⟩) hHd ?_
        simp only [Act.put, List.setIfInBounds_toArray, List.set_cons_zero, List.set_cons_succ]
        refine wpAnyH_ready (rs := [12]) (by kernel_rfl) (by simp) ?_
        refine AllReadyH.cons (o := ⟨none, Op.store 36 (Operand.tmp 78) (Operand.tmp 76), 0, _, _, none⟩) rfl (fun K hK => ?_) AllReadyH.nil
        rw [if_pos (by rfl)]
        refine wp_valS (wD.setCell ⟨q, 1, none⟩ (.slice za (Ws.length + 1) zc)) (by go_simp) ?_
        clear fD_ cD_
        have BQd := Keep.mk (BQC.out.pushW KD1.out KD2.out KD3.out OC.out HY.out.2)
        have Gd : Keep (Grown w4 (wD.setCell ⟨q, 1, none⟩ (.slice za (Ws.length + 1) zc)) (fun k => BkS2 q (.slice oa O.length oc) (.slice wa_ Ws.length wc_) O Ws k ∨ (.slice va vn vc : Value).ownBlock = some k)) := ⟨((G8.out.trans (Grown.below bC.out)).trans (KD2.out.mono fun k _ e => .inl (.inr (.inr (.inl e))))).trans (Grown.setCell wD q 1 _ fun _ => .inl (.inl rfl))⟩
        have UFd : Keep (∀ k, (Value.slice ua vn uc).ownBlock = some k → w4.heap.size ≤ k) := ⟨fun k hk => Nat.le_trans G8.out.size (UF.out k hk)⟩
        have Md : Keep ((Value.slice za (Ws.length + 1) zc).ownBlock = (.slice wa_ Ws.length wc_ : Value).ownBlock ∨ ∃ k, (Value.slice za (Ws.length + 1) zc).ownBlock = some k ∧ w4.heap.size ≤ k) := ⟨KD3.out.imp id fun ⟨k, e, h⟩ => ⟨k, e, Nat.le_trans (Nat.le_trans G8.out.size bC.out.size) h⟩⟩
        refine hK _ _ trivial fun hHe => ?_
        clear hK
        simp only [Act.put, List.setIfInBounds_toArray, List.set_cons_zero, List.set_cons_succ]
        refine wpAnyH_done (by kernel_rfl) ?_ _
        exact rest9.out _ _ _ _ _ _ _ _ _ _ _ _ _ _ _ BQd Gd UFd Md

theorem TS.below {w w1 : World} {p mb x g N q : Nat} {P K : List Lk} {vo vw : Value} {n : Int} {O Ws : List (Value × List Int)} (h : TS w p mb x g N P K q vo vw n O Ws) (hb : Below w.heap.size w w1) (r : PR w1 p mb x g N P K) : TS w1 p mb x g N P K q vo vw n O Ws :=
  ⟨r, h.eq, h.bk.below hb, h.dj, h.cnt⟩
theorem tka_any (w : World) (p mb x g N q : Nat) (Ps Ks : List Lk) (vo vw : Value) (n : Int) (O Ws : List (Value × List Int)) (qe : Addr) (kd f t i j m by_ : Int) (vb : Value) (HT : Keep (TS w p mb x g N Ps Ks q vo vw n O Ws)) (HE : Keep (ErrI w qe)) (HZ : Keep (¬ PrS p mb x g Ps Ks 0)) : Calls Tryd.prog 24 #[.agg #[.pointer (some ⟨p, 0, none⟩), .pointer (some ⟨x, 0, none⟩)], .agg #[.int .i64 kd, .int .i64 f, .int .i64 t, .int .i64 i, .int .i64 j, .int .i64 m, .int .u8 by_, vb], .pointer (some ⟨q, 0, none⟩)] w fun e w' => e = .returned (.bool true) ∧ ∃ P' K' vo' vw' n' O' Ws', TS w' p mb x g N P' K' q vo' vw' n' O' Ws' ∧ Grown w w' (TU p mb x g Ps Ks q vo vw O Ws) ∧ ∀ k, TU p mb x g P' K' q vo' vw' O' Ws' k → TU p mb x g Ps Ks q vo vw O Ws k ∨ w.heap.size ≤ k := by
  have h : tkE N Ks f t = -1 ∨ tkE N Ks f t = 0 ∨ tkE N Ks f t = 1 := by
    unfold tkE
    split
    · split
      · exact .inl rfl
      · exact .inr (.inl rfl)
    · exact .inr (.inr rfl)
  rcases h with h | h | h
  · exact tka_idle w p mb x g N q Ps Ks vo vw n O Ws qe kd f t i j m by_ vb HT HE HZ h
  · exact tka_ok w p mb x g N q Ps Ks vo vw n O Ws qe kd f t i j m by_ vb HT HE HZ h
  · exact tka_no w p mb x g N q Ps Ks vo vw n O Ws qe kd f t i j m by_ vb HT HE HZ h
set_option maxRecDepth 8000 in
theorem st_take (w : World) (p mb x g N q : Nat) (Ps Ks : List Lk) (vo vw : Value) (n : Int) (O Ws : List (Value × List Int)) (qe : Addr) (f t i j m by_ : Int) (vb : Value) (HT : Keep (TS w p mb x g N Ps Ks q vo vw n O Ws)) (HE : Keep (ErrI w qe)) (HZ : Keep (¬ PrS p mb x g Ps Ks 0)) : Calls Tryd.prog 10 #[.agg #[.pointer (some ⟨p, 0, none⟩), .pointer (some ⟨x, 0, none⟩)], .agg #[.int .i64 2, .int .i64 f, .int .i64 t, .int .i64 i, .int .i64 j, .int .i64 m, .int .u8 by_, vb], .pointer (some ⟨q, 0, none⟩)] w fun e w' => e = .returned (.bool true) ∧ ∃ P' K' vo' vw' n' O' Ws', TS w' p mb x g N P' K' q vo' vw' n' O' Ws' ∧ Grown w w' (TU p mb x g Ps Ks q vo vw O Ws) ∧ ∀ k, TU p mb x g P' K' q vo' vw' O' Ws' k → TU p mb x g Ps Ks q vo vw O Ws k ∨ w.heap.size ≤ k := by
  go_enter Tryd.func10, Tryd.ntmps10
  refine wp_seq_k fun K1 hK1 => ?_
  refine wp_region_list (WL.out ?_)
  have HR : Keep (PR w p mb x g N Ps Ks) := ⟨HT.out.pr⟩
  refine WL.box (by kernel_rfl) 34 (.tmp 0) rfl #[.pointer (some ⟨p, 0, none⟩), .pointer (some ⟨x, 0, none⟩)] rfl ?_
  have b1 := below_new w (.cells #[.pointer (some ⟨p, 0, none⟩), .pointer (some ⟨x, 0, none⟩)] 34)
  have Q3 := Keep.mk (Blk.new w 34 #[.pointer (some ⟨p, 0, none⟩), .pointer (some ⟨x, 0, none⟩)])
  generalize w.alloc (.cells #[.pointer (some ⟨p, 0, none⟩), .pointer (some ⟨x, 0, none⟩)] 34) = w1 at *
  obtain ⟨b3, hb3⟩ : ∃ z, Keep (z = w.heap.size) := ⟨_, ⟨rfl⟩⟩
  rw [← hb3.out] at Q3 ⊢
  simp only [Act.put, List.setIfInBounds_toArray, List.set_cons_zero, List.set_cons_succ]
  refine WL.box (by kernel_rfl) 41 (.tmp 1) rfl #[.int .i64 2, .int .i64 f, .int .i64 t, .int .i64 i, .int .i64 j, .int .i64 m, .int .u8 by_, vb] rfl ?_
  have b2 := below_new w1 (.cells #[.int .i64 2, .int .i64 f, .int .i64 t, .int .i64 i, .int .i64 j, .int .i64 m, .int .u8 by_, vb] 41)
  have Q4 := Keep.mk (Blk.new w1 41 #[.int .i64 2, .int .i64 f, .int .i64 t, .int .i64 i, .int .i64 j, .int .i64 m, .int .u8 by_, vb])
  have Q3 := Keep.mk (Q3.out.alloc (.cells #[.int .i64 2, .int .i64 f, .int .i64 t, .int .i64 i, .int .i64 j, .int .i64 m, .int .u8 by_, vb] 41))
  have hb2 := below_new w1 (.cells #[.int .i64 2, .int .i64 f, .int .i64 t, .int .i64 i, .int .i64 j, .int .i64 m, .int .u8 by_, vb] 41)
  generalize w1.alloc (.cells #[.int .i64 2, .int .i64 f, .int .i64 t, .int .i64 i, .int .i64 j, .int .i64 m, .int .u8 by_, vb] 41) = w2 at *
  obtain ⟨b4, hb4⟩ : ∃ z, Keep (z = w1.heap.size) := ⟨_, ⟨rfl⟩⟩
  rw [← hb4.out] at Q4 ⊢
  have HB2 : Keep (Below w.heap.size w w2) := ⟨b1.trans (b2.mono b1.size)⟩
  have R2 := Keep.mk (HR.out.below HB2.out)
  have HF3 : Keep (∀ k, PrS p mb x g Ps Ks k → k ≠ b3 ∧ k ≠ b4) := ⟨fun k hk => by have := HR.out.lt k hk; have := hb3.out; have := hb4.out; have := b1.size; omega⟩
  clear b1 b2 hb2
  have c3_0 := Q3.out.c 0 (rfl : _ = some (Value.pointer (some ⟨p, 0, none⟩)))
  have c3_1 := Q3.out.c 1 (rfl : _ = some (Value.pointer (some ⟨x, 0, none⟩)))
  have c4_0 := Q4.out.c 0 (rfl : _ = some (Value.int .i64 2))
  have c4_1 := Q4.out.c 1 (rfl : _ = some (Value.int .i64 f))
  have c4_2 := Q4.out.c 2 (rfl : _ = some (Value.int .i64 t))
  have c4_3 := Q4.out.c 3 (rfl : _ = some (Value.int .i64 i))
  have c4_4 := Q4.out.c 4 (rfl : _ = some (Value.int .i64 j))
  have c4_5 := Q4.out.c 5 (rfl : _ = some (Value.int .i64 m))
  have c4_6 := Q4.out.c 6 (rfl : _ = some (Value.int .u8 by_))
  simp only [Act.put, List.setIfInBounds_toArray, List.set_cons_zero, List.set_cons_succ]
  refine WL.val (by kernel_rfl) (.bool false) (by go_simp) ?_
  simp only [Act.put, List.setIfInBounds_toArray, List.set_cons_zero, List.set_cons_succ]
  refine WL.nil ?_
  refine hK1 _ _ ?_
  refine wp_seq_k fun K2 hK2 => ?_
  refine wp_seq_k fun K3 hK3 => ?_
  refine wp_region_list (WL.out ?_)
  refine WL.val (by kernel_rfl) (.pointer (some ⟨b4, 0, none⟩)) (by go_simp) ?_
  simp only [Act.put, List.setIfInBounds_toArray, List.set_cons_zero, List.set_cons_succ]
  refine WL.val (by kernel_rfl) (.int .i64 2) (by go_simp) ?_
  simp only [Act.put, List.setIfInBounds_toArray, List.set_cons_zero, List.set_cons_succ]
  refine WL.nil ?_
  refine hK3 _ _ ?_
  refine wp_block ?_
  refine wp_seq_k fun K4 hK4 => ?_
  refine wp_region_list (WL.out ?_)
  refine WL.val (by kernel_rfl) (.bool false) (by go_simp) ?_
  simp only [Act.put, List.setIfInBounds_toArray, List.set_cons_zero, List.set_cons_succ]
  refine WL.val (by kernel_rfl) (.bool false) (by go_simp) ?_
  simp only [Act.put, List.setIfInBounds_toArray, List.set_cons_zero, List.set_cons_succ]
  refine WL.nil ?_
  refine hK4 _ _ ?_
  refine wp_cond_false rfl ?_
  refine wp_seq_k fun K5 hK5 => ?_
  refine wp_region_list (WL.out ?_)
  refine WL.val (by kernel_rfl) (.bool true) (by go_simp) ?_
  simp only [Act.put, List.setIfInBounds_toArray, List.set_cons_zero, List.set_cons_succ]
  refine WL.val (by kernel_rfl) (.bool true) (by go_simp) ?_
  simp only [Act.put, List.setIfInBounds_toArray, List.set_cons_zero, List.set_cons_succ]
  refine WL.nil ?_
  refine hK5 _ _ ?_
  refine wp_cond_true rfl ?_
  refine wp_seq_k fun K6 hK6 => ?_
  refine wp_region_list (WL.out ?_)
  refine WL.row (by kernel_rfl) 34 (.tmp 3) rfl b3 rfl 34 #[.pointer (some ⟨p, 0, none⟩), .pointer (some ⟨x, 0, none⟩)] _ Q3.out Tryd.underlying34 rfl (by kernel_rfl) ?_
  simp only [Act.put, List.setIfInBounds_toArray, List.set_cons_zero, List.set_cons_succ]
  refine WL.row (by kernel_rfl) 41 (.tmp 4) rfl b4 rfl 41 #[.int .i64 2, .int .i64 f, .int .i64 t, .int .i64 i, .int .i64 j, .int .i64 m, .int .u8 by_, vb] _ Q4.out Tryd.underlying41 rfl (by kernel_rfl) ?_
  simp only [Act.put, List.setIfInBounds_toArray, List.set_cons_zero, List.set_cons_succ]
  refine WL.val (by kernel_rfl) (.pointer (some ⟨q, 0, none⟩)) (by go_simp) ?_
  simp only [Act.put, List.setIfInBounds_toArray, List.set_cons_zero, List.set_cons_succ]
  refine WL.callF (by kernel_rfl) 24 _ _ rfl Tryd.in24 #[.agg #[.pointer (some ⟨p, 0, none⟩), .pointer (some ⟨x, 0, none⟩)], .agg #[.int .i64 2, .int .i64 f, .int .i64 t, .int .i64 i, .int .i64 j, .int .i64 m, .int .u8 by_, vb], .pointer (some ⟨q, 0, none⟩)] (by simp [Act.eval]) ?_
  refine (tka_any w2 p mb x g N q Ps Ks vo vw n O Ws qe 2 f t i j m by_ vb ⟨HT.out.below HB2.out R2.out⟩ ⟨HE.out.grown (Grown.below (S := fun _ => False) HB2.out) id⟩ HZ).mono ?_
  rintro e w3 ⟨rfl, P1, K1, vo1, vw1, n1, O1, W1, h1, h2, h3⟩
  refine ⟨_, rfl, ?_⟩
  have H1 := Keep.mk h1
  have H2 := Keep.mk h2
  have H3 := Keep.mk h3
  clear h1 h2 h3
  simp only [Act.put, List.setIfInBounds_toArray, List.set_cons_zero, List.set_cons_succ]
  refine WL.val (by kernel_rfl) (.bool true) (by go_simp) ?_
  simp only [Act.put, List.setIfInBounds_toArray, List.set_cons_zero, List.set_cons_succ]
  refine WL.nil ?_
  refine hK6 _ _ ?_
  refine wp_ret ?_
  go_ret
  exact ⟨rfl, P1, K1, vo1, vw1, n1, O1, W1, H1.out, (Grown.below HB2.out).trans H2.out, fun k hk => (H3.out k hk).imp id (Nat.le_trans HB2.out.size)⟩

theorem Tryd.in13 (w : World) (vs : Array Value) : (callFunc 13 vs).run Tryd.prog w = .ok (.enter 13 vs) w := by kernel_rfl
theorem bldSp (a b : Int) : Tryd.prog.built 41 [(1, .int .i64 a), (2, .int .i64 b)] = some #[.int .i64 0, .int .i64 a, .int .i64 b, .int .i64 0, .int .i64 0, .int .i64 0, .int .u8 0, .slice none 0 0] := by kernel_rfl
theorem len_nat {w : World} {x g N : Nat} {K : List Lk} (h : RmAt w x g N K) (f t : Int) : ∃ c : Nat, lenI N K f t = (c : Int) ∧ c ≤ 1024 := by
  unfold lenI
  cases ht : thr N f t
  · exact ⟨0, rfl, by omega⟩
  · exact ⟨_, rfl, (h.link ht).2.1.few⟩
def TI (w0 : World) (p mb x g N : Nat) (Ps Ks : List Lk) (q : Nat) (vo vw : Value) (O Ws : List (Value × List Int)) (w' : World) : Prop :=
  ∃ P' K' vo' vw' n' O' Ws', TS w' p mb x g N P' K' q vo' vw' n' O' Ws' ∧ Grown w0 w' (TU p mb x g Ps Ks q vo vw O Ws) ∧ ∀ k, TU p mb x g P' K' q vo' vw' O' Ws' k → TU p mb x g Ps Ks q vo vw O Ws k ∨ w0.heap.size ≤ k
theorem TI.refl {w0 : World} {p mb x g N q : Nat} {Ps Ks : List Lk} {vo vw : Value} {n : Int} {O Ws : List (Value × List Int)} (h : TS w0 p mb x g N Ps Ks q vo vw n O Ws) : TI w0 p mb x g N Ps Ks q vo vw O Ws w0 :=
  ⟨Ps, Ks, vo, vw, n, O, Ws, h, Grown.refl _ _, fun _ e => .inl e⟩
theorem TI.of_below {w w0 w' : World} {p mb x g N q : Nat} {Ps Ks : List Lk} {vo vw : Value} {O Ws : List (Value × List Int)} (hb : Below w.heap.size w w0) (h : TI w0 p mb x g N Ps Ks q vo vw O Ws w') : TI w p mb x g N Ps Ks q vo vw O Ws w' := by
  obtain ⟨P1, K1, vo1, vw1, n1, O1, W1, h1, h2, h3⟩ := h
  exact ⟨P1, K1, vo1, vw1, n1, O1, W1, h1, (Grown.below hb).trans h2, fun k hk => (h3 k hk).imp id (Nat.le_trans hb.size)⟩
theorem TI.trans {w0 w1 w' : World} {p mb x g N q : Nat} {Ps Ks P1 K1 : List Lk} {vo vw vo1 vw1 : Value} {n1 : Int} {O Ws O1 W1 : List (Value × List Int)} (_ : TS w1 p mb x g N P1 K1 q vo1 vw1 n1 O1 W1) (h2 : Grown w0 w1 (TU p mb x g Ps Ks q vo vw O Ws)) (h3 : ∀ k, TU p mb x g P1 K1 q vo1 vw1 O1 W1 k → TU p mb x g Ps Ks q vo vw O Ws k ∨ w0.heap.size ≤ k) (h : TI w1 p mb x g N P1 K1 q vo1 vw1 O1 W1 w') : TI w0 p mb x g N Ps Ks q vo vw O Ws w' := by
  obtain ⟨P2, K2, vo2, vw2, n2, O2, W2, a1, a2, a3⟩ := h
  refine ⟨P2, K2, vo2, vw2, n2, O2, W2, a1, ((h2.mono (T := fun k => TU p mb x g Ps Ks q vo vw O Ws k ∨ w0.heap.size ≤ k) fun k _ e => .inl e).trans (a2.mono fun k _ e => h3 k e)).mono fun k hk e => ?_, fun k hk => ?_⟩
  · rcases e with e | e
    · exact e
    · omega
  · rcases a3 k hk with e | e
    · exact h3 k e
    · exact .inr (Nat.le_trans h2.size e)
set_option maxRecDepth 8000 in
set_option maxHeartbeats 1000000 in
theorem rest_any (w : World) (p mb x g N q : Nat) (Ps Ks : List Lk) (vo vw : Value) (n : Int) (O Ws : List (Value × List Int)) (qe : Addr) (HT : Keep (TS w p mb x g N Ps Ks q vo vw n O Ws)) (HE : Keep (ErrI w qe)) (HZ : Keep (¬ TU p mb x g Ps Ks q vo vw O Ws 0)) : Calls Tryd.prog 13 #[.agg #[.pointer (some ⟨p, 0, none⟩), .pointer (some ⟨x, 0, none⟩)], .pointer (some ⟨q, 0, none⟩)] w fun e w' => e = .returned (.bool true) ∧ TI w p mb x g N Ps Ks q vo vw O Ws w' := by
  go_enter Tryd.func13, Tryd.ntmps13
  refine wp_seq_k fun K1 hK1 => ?_
  refine wp_region_list (WL.out ?_)
  refine WL.box (by kernel_rfl) 34 (.tmp 0) rfl #[.pointer (some ⟨p, 0, none⟩), .pointer (some ⟨x, 0, none⟩)] rfl ?_
  have b1 := below_new w (.cells #[.pointer (some ⟨p, 0, none⟩), .pointer (some ⟨x, 0, none⟩)] 34)
  have Q3 := Keep.mk (Blk.new w 34 #[.pointer (some ⟨p, 0, none⟩), .pointer (some ⟨x, 0, none⟩)])
  generalize w.alloc (.cells #[.pointer (some ⟨p, 0, none⟩), .pointer (some ⟨x, 0, none⟩)] 34) = w1 at *
  obtain ⟨b3, hb3⟩ : ∃ z, Keep (z = w.heap.size) := ⟨_, ⟨rfl⟩⟩
  rw [← hb3.out] at Q3 ⊢
  have HB1 : Keep (Below w.heap.size w w1) := ⟨b1⟩
  have HS1 : Keep (0 < w1.heap.size) := ⟨by have := Q3.out.lt; omega⟩
  have T1 : Keep (TS w1 p mb x g N Ps Ks q vo vw n O Ws) := ⟨HT.out.below HB1.out (HT.out.pr.below HB1.out)⟩
  have HE1 : Keep (ErrI w1 qe) := ⟨HE.out.below HB1.out⟩
  have HF3 : Keep (∀ k, TU p mb x g Ps Ks q vo vw O Ws k → k ≠ b3) := ⟨fun k hk => by
    have := hb3.out
    rcases hk with hk | hk
    · have := HT.out.pr.lt k hk; omega
    · have := HT.out.bk.lt k hk; omega⟩
  have HNb : Keep (N ≤ 8) := ⟨HT.out.pr.rm.nb.2⟩
  clear b1
  simp only [Act.put, List.setIfInBounds_toArray, List.set_cons_zero, List.set_cons_succ]
  refine WL.val (by kernel_rfl) (.bool false) (by go_simp) ?_
  simp only [Act.put, List.setIfInBounds_toArray, List.set_cons_zero, List.set_cons_succ]
  refine WL.nil ?_
  refine hK1 _ _ ?_
  refine wp_seq_k fun K2 hK2 => ?_
  refine wp_seq_k fun K3 hK3 => ?_
  refine wp_region_list (WL.out ?_)
  refine WL.val (by kernel_rfl) (.int .i64 1) (by go_simp) ?_
  simp only [Act.put, List.setIfInBounds_toArray, List.set_cons_zero, List.set_cons_succ]
  refine WL.nil ?_
  refine hK3 _ _ ?_
  refine wp_block ?_
  refine wp_loop (fun ac wr => ∃ (u : Nat) (u4 u6 u7 u8 u9 u10 u11 u12 u13 u14 u15 u16 u17 u18 u19 u20 u21 u22 u23 u24 u25 u26 u27 u28 u29 u30 u31 u32 u33 u34 u35 u36 u37 u38 u39 u40 u41 u42 u43 u44 u45 u46 u47 u48 u49 u50 u51 u52 u53 u54 u55 u56 u57 : Value), ac = { tmps := #[.agg #[.pointer (some ⟨p, 0, none⟩), .pointer (some ⟨x, 0, none⟩)], .pointer (some ⟨q, 0, none⟩), .pointer (some ⟨b3, 0, none⟩), undef, u4, .int .i64 ((u : Int) + 1), u6, u7, u8, u9, u10, u11, u12, u13, u14, u15, u16, u17, u18, u19, u20, u21, u22, u23, u24, u25, u26, u27, u28, u29, u30, u31, u32, u33, u34, u35, u36, u37, u38, u39, u40, u41, u42, u43, u44, u45, u46, u47, u48, u49, u50, u51, u52, u53, u54, u55, u56, u57], defers := [] } ∧ Keep (u ≤ 8) ∧ Keep (TI w1 p mb x g N Ps Ks q vo vw O Ws wr)) (fun a _ => 10 - (intOf (a.tmps.getD 5 undef)).toNat) ⟨0, .bool false, undef, undef, undef, undef, undef, undef, undef, undef, undef, undef, undef, undef, undef, undef, undef, undef, undef, undef, undef, undef, undef, undef, undef, undef, undef, undef, undef, undef, undef, undef, undef, undef, undef, undef, undef, undef, undef, undef, undef, undef, undef, undef, undef, undef, undef, undef, undef, undef, undef, undef, undef, undef, rfl, ⟨by omega⟩, ⟨TI.refl T1.out⟩⟩ ?_
  rintro ac wr ⟨u, u4, u6, u7, u8, u9, u10, u11, u12, u13, u14, u15, u16, u17, u18, u19, u20, u21, u22, u23, u24, u25, u26, u27, u28, u29, u30, u31, u32, u33, u34, u35, u36, u37, u38, u39, u40, u41, u42, u43, u44, u45, u46, u47, u48, u49, u50, u51, u52, u53, u54, u55, u56, u57, rfl, HF, HN⟩
  obtain ⟨hu9⟩ := HF
  have hn9 := HNb.out
  obtain ⟨P2, K2, vo2, vw2, n2, O2, W2, E1, E2, E3⟩ := HN.out
  have E1 := Keep.mk E1
  have E2 := Keep.mk E2
  have E3 := Keep.mk E3
  have X3 := E2.out.blk Q3.out fun e => HF3.out _ e rfl
  have c3_0 := X3.c 0 (rfl : _ = some (Value.pointer (some ⟨p, 0, none⟩)))
  have c3_1 := X3.c 1 (rfl : _ = some (Value.pointer (some ⟨x, 0, none⟩)))
  have cx_0 := E1.out.pr.rm.bx.c 0 (rfl : _ = some (Value.int .i64 (N : Int)))
  clear X3
  refine wp_seq_k fun K4 hK4 => ?_
  refine wp_seq_k fun K5 hK5 => ?_
  refine wp_region_list (WL.out ?_)
  refine WL.val (by kernel_rfl) (.int .i64 ((u : Int) + 1)) (by go_simp) ?_
  simp only [Act.put, List.setIfInBounds_toArray, List.set_cons_zero, List.set_cons_succ]
  refine WL.val (by kernel_rfl) (.pointer (some ⟨b3, 1, none⟩)) (by go_simp) ?_
  simp only [Act.put, List.setIfInBounds_toArray, List.set_cons_zero, List.set_cons_succ]
  refine WL.val (by kernel_rfl) (.pointer (some ⟨x, 0, none⟩)) (by go_simp) ?_
  simp only [Act.put, List.setIfInBounds_toArray, List.set_cons_zero, List.set_cons_succ]
  refine WL.val (by kernel_rfl) (.pointer (some ⟨x, 0, none⟩)) (by go_simp) ?_
  simp only [Act.put, List.setIfInBounds_toArray, List.set_cons_zero, List.set_cons_succ]
  refine WL.val (by kernel_rfl) (.pointer (some ⟨x, 0, none⟩)) (by go_simp) ?_
  simp only [Act.put, List.setIfInBounds_toArray, List.set_cons_zero, List.set_cons_succ]
  refine WL.val (by kernel_rfl) (.int .i64 (N : Int)) (by go_simp) ?_
  simp only [Act.put, List.setIfInBounds_toArray, List.set_cons_zero, List.set_cons_succ]
  by_cases h2_6 : u < N
  · have hcu_ : (((u : Int) + 1) ≤ (N : Int)) := by omega
    refine WL.val (by kernel_rfl) (.bool true) (by go_simp) ?_
    simp only [Act.put, List.setIfInBounds_toArray, List.set_cons_zero, List.set_cons_succ]
    refine WL.nil ?_
    refine hK5 _ _ ?_
    refine wp_cond_true rfl ?_
    refine wp_skip ?_
    refine hK4 _ _ ?_
    refine wp_seq_k fun K6 hK6 => ?_
    refine wp_block ?_
    refine wp_seq_k fun K7 hK7 => ?_
    refine wp_region_list (WL.out ?_)
    refine WL.val (by kernel_rfl) (.int .i64 1) (by go_simp) ?_
    simp only [Act.put, List.setIfInBounds_toArray, List.set_cons_zero, List.set_cons_succ]
    refine WL.nil ?_
    refine hK7 _ _ ?_
    refine wp_block ?_
    refine wp_loop (fun ac wi => ∃ (k : Nat) (z4 z7 z8 z9 z19 z20 z21 z22 z23 z24 z25 z26 z27 z28 z29 z30 z31 z32 z33 z34 z35 z36 z37 z38 z39 z40 z41 z42 z43 z44 z45 z46 z47 z48 z49 z50 z51 z52 z53 z54 z55 z56 z57 : Value), ac = { tmps := #[.agg #[.pointer (some ⟨p, 0, none⟩), .pointer (some ⟨x, 0, none⟩)], .pointer (some ⟨q, 0, none⟩), .pointer (some ⟨b3, 0, none⟩), undef, z4, .int .i64 ((u : Int) + 1), .int .i64 ((k : Int) + 1), z7, z8, z9, .int .i64 ((u : Int) + 1), .pointer (some ⟨b3, 1, none⟩), .pointer (some ⟨x, 0, none⟩), .pointer (some ⟨x, 0, none⟩), .pointer (some ⟨x, 0, none⟩), .int .i64 (N : Int), .bool true, u17, u18, z19, z20, z21, z22, z23, z24, z25, z26, z27, z28, z29, z30, z31, z32, z33, z34, z35, z36, z37, z38, z39, z40, z41, z42, z43, z44, z45, z46, z47, z48, z49, z50, z51, z52, z53, z54, z55, z56, z57], defers := [] } ∧ Keep (k ≤ 8) ∧ Keep (TI w1 p mb x g N Ps Ks q vo vw O Ws wi)) (fun a _ => 10 - (intOf (a.tmps.getD 6 undef)).toNat) ⟨0, u4, u7, u8, u9, u19, u20, u21, u22, u23, u24, u25, u26, u27, u28, u29, u30, u31, u32, u33, u34, u35, u36, u37, u38, u39, u40, u41, u42, u43, u44, u45, u46, u47, u48, u49, u50, u51, u52, u53, u54, u55, u56, u57, rfl, ⟨by omega⟩, HN⟩ ?_
    rintro ac wi ⟨k, z4, z7, z8, z9, z19, z20, z21, z22, z23, z24, z25, z26, z27, z28, z29, z30, z31, z32, z33, z34, z35, z36, z37, z38, z39, z40, z41, z42, z43, z44, z45, z46, z47, z48, z49, z50, z51, z52, z53, z54, z55, z56, z57, rfl, HG, HM⟩
    obtain ⟨hk9⟩ := HG
    have hn9 := HNb.out
    obtain ⟨P3, K3, vo3, vw3, n3, O3, W3, F1, F2, F3⟩ := HM.out
    have F1 := Keep.mk F1
    have F2 := Keep.mk F2
    have F3 := Keep.mk F3
    have X3 := F2.out.blk Q3.out fun e => HF3.out _ e rfl
    have c3_0 := X3.c 0 (rfl : _ = some (Value.pointer (some ⟨p, 0, none⟩)))
    have c3_1 := X3.c 1 (rfl : _ = some (Value.pointer (some ⟨x, 0, none⟩)))
    have cx_0 := F1.out.pr.rm.bx.c 0 (rfl : _ = some (Value.int .i64 (N : Int)))
    clear X3
    refine wp_seq_k fun K8 hK8 => ?_
    refine wp_seq_k fun K9 hK9 => ?_
    refine wp_region_list (WL.out ?_)
    refine WL.val (by kernel_rfl) (.int .i64 ((k : Int) + 1)) (by go_simp) ?_
    simp only [Act.put, List.setIfInBounds_toArray, List.set_cons_zero, List.set_cons_succ]
    refine WL.val (by kernel_rfl) (.pointer (some ⟨b3, 1, none⟩)) (by go_simp) ?_
    simp only [Act.put, List.setIfInBounds_toArray, List.set_cons_zero, List.set_cons_succ]
    refine WL.val (by kernel_rfl) (.pointer (some ⟨x, 0, none⟩)) (by go_simp) ?_
    simp only [Act.put, List.setIfInBounds_toArray, List.set_cons_zero, List.set_cons_succ]
    refine WL.val (by kernel_rfl) (.pointer (some ⟨x, 0, none⟩)) (by go_simp) ?_
    simp only [Act.put, List.setIfInBounds_toArray, List.set_cons_zero, List.set_cons_succ]
    refine WL.val (by kernel_rfl) (.pointer (some ⟨x, 0, none⟩)) (by go_simp) ?_
    simp only [Act.put, List.setIfInBounds_toArray, List.set_cons_zero, List.set_cons_succ]
    refine WL.val (by kernel_rfl) (.int .i64 (N : Int)) (by go_simp) ?_
    simp only [Act.put, List.setIfInBounds_toArray, List.set_cons_zero, List.set_cons_succ]
    by_cases h5_6 : k < N
    · have hck_ : (((k : Int) + 1) ≤ (N : Int)) := by omega
      refine WL.val (by kernel_rfl) (.bool true) (by go_simp) ?_
      simp only [Act.put, List.setIfInBounds_toArray, List.set_cons_zero, List.set_cons_succ]
      refine WL.nil ?_
      refine hK9 _ _ ?_
      refine wp_cond_true rfl ?_
      refine wp_skip ?_
      refine hK8 _ _ ?_
      refine wp_seq_k fun K10 hK10 => ?_
      refine wp_block ?_
      refine wp_seq_k fun K11 hK11 => ?_
      refine wp_seq_k fun K12 hK12 => ?_
      refine wp_region_list (WL.out ?_)
      refine WL.val (by kernel_rfl) (.pointer (some ⟨b3, 1, none⟩)) (by go_simp) ?_
      simp only [Act.put, List.setIfInBounds_toArray, List.set_cons_zero, List.set_cons_succ]
      refine WL.val (by kernel_rfl) (.pointer (some ⟨x, 0, none⟩)) (by go_simp) ?_
      simp only [Act.put, List.setIfInBounds_toArray, List.set_cons_zero, List.set_cons_succ]
      refine WL.val (by kernel_rfl) (.int .i64 ((u : Int) + 1)) (by go_simp) ?_
      simp only [Act.put, List.setIfInBounds_toArray, List.set_cons_zero, List.set_cons_succ]
      refine WL.val (by kernel_rfl) (.int .i64 ((k : Int) + 1)) (by go_simp) ?_
      simp only [Act.put, List.setIfInBounds_toArray, List.set_cons_zero, List.set_cons_succ]
      refine WL.callF (by kernel_rfl) 34 _ _ rfl Tryd.in34 #[.pointer (some ⟨x, 0, none⟩), .int .i64 ((u : Int) + 1), .int .i64 ((k : Int) + 1)] (by simp [Act.eval]) ?_
      refine (rlen_any wi x g N K3 ((u : Int) + 1) ((k : Int) + 1) F1.out.pr.rm).mono ?_
      rintro e wi_ ⟨rfl, hw_⟩
      refine ⟨_, rfl, ?_⟩
      have hw_ := hw_.symm
      subst hw_
      obtain ⟨c, hc, hcb⟩ : ∃ c : Nat, lenI N K3 ((u : Int) + 1) ((k : Int) + 1) = (c : Int) ∧ c ≤ 1024 := len_nat F1.out.pr.rm _ _
      rw [hc]
      clear hc
      simp only [Act.put, List.setIfInBounds_toArray, List.set_cons_zero, List.set_cons_succ]
      refine WL.val (by kernel_rfl) (.int .i64 (c : Int)) (by go_simp) ?_
      simp only [Act.put, List.setIfInBounds_toArray, List.set_cons_zero, List.set_cons_succ]
      refine WL.nil ?_
      refine hK12 _ _ ?_
      refine wp_block ?_
      refine wp_loop (fun ac wd => ∃ (d : Nat) (y4 y8 y33 y34 y35 y36 y37 y38 y39 y40 y41 y42 y43 y44 : Value), ac = { tmps := #[.agg #[.pointer (some ⟨p, 0, none⟩), .pointer (some ⟨x, 0, none⟩)], .pointer (some ⟨q, 0, none⟩), .pointer (some ⟨b3, 0, none⟩), undef, y4, .int .i64 ((u : Int) + 1), .int .i64 ((k : Int) + 1), .int .i64 (d : Int), y8, z9, .int .i64 ((u : Int) + 1), .pointer (some ⟨b3, 1, none⟩), .pointer (some ⟨x, 0, none⟩), .pointer (some ⟨x, 0, none⟩), .pointer (some ⟨x, 0, none⟩), .int .i64 (N : Int), .bool true, u17, u18, .int .i64 ((k : Int) + 1), .pointer (some ⟨b3, 1, none⟩), .pointer (some ⟨x, 0, none⟩), .pointer (some ⟨x, 0, none⟩), .pointer (some ⟨x, 0, none⟩), .int .i64 (N : Int), .bool true, z26, z27, .pointer (some ⟨b3, 1, none⟩), .pointer (some ⟨x, 0, none⟩), .int .i64 ((u : Int) + 1), .int .i64 ((k : Int) + 1), .int .i64 (c : Int), y33, y34, y35, y36, y37, y38, y39, y40, y41, y42, y43, y44, z45, z46, z47, z48, z49, z50, z51, z52, z53, z54, z55, z56, z57], defers := [] } ∧ Keep (d ≤ 1024) ∧ Keep (TI w1 p mb x g N Ps Ks q vo vw O Ws wd)) (fun a _ => (intOf (a.tmps.getD 7 undef)).toNat) ⟨c, z4, z8, z33, z34, z35, z36, z37, z38, z39, z40, z41, z42, z43, z44, rfl, ⟨hcb⟩, HM⟩ ?_
      rintro ac wd ⟨d, y4, y8, y33, y34, y35, y36, y37, y38, y39, y40, y41, y42, y43, y44, rfl, HD, HL⟩
      obtain ⟨hd9⟩ := HD
      obtain ⟨P4, K4, vo4, vw4, n4, O4, W4, G1, G2, G3⟩ := HL.out
      have G1 := Keep.mk G1
      have G2 := Keep.mk G2
      have G3 := Keep.mk G3
      have X3 := G2.out.blk Q3.out fun e => HF3.out _ e rfl
      have c3_0 := X3.c 0 (rfl : _ = some (Value.pointer (some ⟨p, 0, none⟩)))
      have c3_1 := X3.c 1 (rfl : _ = some (Value.pointer (some ⟨x, 0, none⟩)))
      have cx_0 := G1.out.pr.rm.bx.c 0 (rfl : _ = some (Value.int .i64 (N : Int)))
      clear X3
      refine wp_seq_k fun K13 hK13 => ?_
      refine wp_seq_k fun K14 hK14 => ?_
      refine wp_region_list (WL.out ?_)
      refine WL.val (by kernel_rfl) (.int .i64 (d : Int)) (by go_simp) ?_
      simp only [Act.put, List.setIfInBounds_toArray, List.set_cons_zero, List.set_cons_succ]
      by_cases h8_1 : 0 < d
      · have hcd_ : ((d : Int) > 0) := by omega
        refine WL.val (by kernel_rfl) (.bool true) (by go_simp) ?_
        simp only [Act.put, List.setIfInBounds_toArray, List.set_cons_zero, List.set_cons_succ]
        refine WL.nil ?_
        refine hK14 _ _ ?_
        refine wp_cond_true rfl ?_
        refine wp_skip ?_
        refine hK13 _ _ ?_
        refine wp_seq_k fun K15 hK15 => ?_
        refine wp_block ?_
        refine wp_seq_k fun K16 hK16 => ?_
        refine wp_region_list (WL.out ?_)
        refine WL.row (by kernel_rfl) 34 (.tmp 2) rfl b3 rfl 34 #[.pointer (some ⟨p, 0, none⟩), .pointer (some ⟨x, 0, none⟩)] _ (G2.out.blk Q3.out fun e => HF3.out _ e rfl) Tryd.underlying34 rfl (by kernel_rfl) ?_
        simp only [Act.put, List.setIfInBounds_toArray, List.set_cons_zero, List.set_cons_succ]
        refine WL.val (by kernel_rfl) (.int .i64 ((u : Int) + 1)) (by go_simp) ?_
        simp only [Act.put, List.setIfInBounds_toArray, List.set_cons_zero, List.set_cons_succ]
        refine WL.val (by kernel_rfl) (.int .i64 ((k : Int) + 1)) (by go_simp) ?_
        simp only [Act.put, List.setIfInBounds_toArray, List.set_cons_zero, List.set_cons_succ]
        refine WL.bld (by kernel_rfl) 41 _ rfl [(1, .int .i64 ((u : Int) + 1)), (2, .int .i64 ((k : Int) + 1))] (by simp [Act.eval]) #[.int .i64 0, .int .i64 ((u : Int) + 1), .int .i64 ((k : Int) + 1), .int .i64 0, .int .i64 0, .int .i64 0, .int .u8 0, .slice none 0 0] (bldSp _ _) ?_
        simp only [Act.put, List.setIfInBounds_toArray, List.set_cons_zero, List.set_cons_succ]
        refine WL.val (by kernel_rfl) (.pointer (some ⟨q, 0, none⟩)) (by go_simp) ?_
        simp only [Act.put, List.setIfInBounds_toArray, List.set_cons_zero, List.set_cons_succ]
        refine WL.callF (by kernel_rfl) 24 _ _ rfl Tryd.in24 #[.agg #[.pointer (some ⟨p, 0, none⟩), .pointer (some ⟨x, 0, none⟩)], .agg #[.int .i64 0, .int .i64 ((u : Int) + 1), .int .i64 ((k : Int) + 1), .int .i64 0, .int .i64 0, .int .i64 0, .int .u8 0, .slice none 0 0], .pointer (some ⟨q, 0, none⟩)] (by simp [Act.eval]) ?_
        refine (tka_any wd p mb x g N q P4 K4 vo4 vw4 n4 O4 W4 qe 0 ((u : Int) + 1) ((k : Int) + 1) 0 0 0 0 (.slice none 0 0) G1 ⟨HE1.out.grown G2.out HZ.out⟩ ⟨fun e => ((G3.out 0 (.inl e)).elim HZ.out fun e2 => by have := HS1.out; omega)⟩).mono ?_
        rintro e w5 ⟨rfl, ht9⟩
        refine ⟨_, rfl, ?_⟩
        clear c3_0 c3_1 cx_0
        have N5 : Keep (TI w1 p mb x g N Ps Ks q vo vw O Ws w5) := ⟨TI.trans (G1.out) (G2.out) (G3.out) ht9⟩
        clear ht9
        simp only [Act.put, List.setIfInBounds_toArray, List.set_cons_zero, List.set_cons_succ]
        refine WL.val (by kernel_rfl) (.bool true) (by go_simp) ?_
        simp only [Act.put, List.setIfInBounds_toArray, List.set_cons_zero, List.set_cons_succ]
        refine WL.nil ?_
        refine hK16 _ _ ?_
        refine wp_seq_k fun K17 hK17 => ?_
        refine wp_region_list (WL.out ?_)
        refine WL.val (by kernel_rfl) (.bool true) (by go_simp) ?_
        simp only [Act.put, List.setIfInBounds_toArray, List.set_cons_zero, List.set_cons_succ]
        refine WL.val (by kernel_rfl) (.bool false) (by go_simp) ?_
        simp only [Act.put, List.setIfInBounds_toArray, List.set_cons_zero, List.set_cons_succ]
        refine WL.nil ?_
        refine hK17 _ _ ?_
        refine wp_cond_false rfl ?_
        refine wp_skip ?_
        refine hK15 _ _ ?_
        refine wp_region_list (WL.out ?_)
        refine WL.val (by kernel_rfl) (.int .i64 (d : Int)) (by go_simp) ?_
        simp only [Act.put, List.setIfInBounds_toArray, List.set_cons_zero, List.set_cons_succ]
        have hw8 : IntKind.i64.wrap ((d : Int) - 1) = ((d - 1 : Nat) : Int) := by rw [IntKind.wrap_i64]; omega
        refine WL.val (by kernel_rfl) (.int .i64 ((d - 1 : Nat) : Int)) (by go_simp) ?_
        clear hw8
        simp only [Act.put, List.setIfInBounds_toArray, List.set_cons_zero, List.set_cons_succ]
        refine WL.val (by kernel_rfl) (.int .i64 ((d - 1 : Nat) : Int)) (by go_simp) ?_
        simp only [Act.put, List.setIfInBounds_toArray, List.set_cons_zero, List.set_cons_succ]
        refine WL.nil ?_
        try simp only [Exit.inBlock, Exit.then]
        refine ⟨⟨d - 1, y4, .bool true, .int .i64 (d : Int), .bool true, .int .i64 (d : Int), .int .i64 ((d - 1 : Nat) : Int), .agg #[.pointer (some ⟨p, 0, none⟩), .pointer (some ⟨x, 0, none⟩)], .int .i64 ((u : Int) + 1), .int .i64 ((k : Int) + 1), .agg #[.int .i64 0, .int .i64 ((u : Int) + 1), .int .i64 ((k : Int) + 1), .int .i64 0, .int .i64 0, .int .i64 0, .int .u8 0, .slice none 0 0], .pointer (some ⟨q, 0, none⟩), .bool true, .bool true, .bool false, rfl, ⟨by omega⟩, N5⟩, ?_⟩
        simp only [intOf]
        show (((d - 1 : Nat) : Int)).toNat < ((d : Int)).toNat
        omega
      · have hcd_ : ¬ ((d : Int) > 0) := by omega
        refine WL.val (by kernel_rfl) (.bool false) (by go_simp) ?_
        simp only [Act.put, List.setIfInBounds_toArray, List.set_cons_zero, List.set_cons_succ]
        refine WL.nil ?_
        refine hK14 _ _ ?_
        refine wp_cond_false rfl ?_
        refine wp_exit ?_
        refine hK11 _ _ ?_
        refine wp_seq_k fun K18 hK18 => ?_
        refine wp_region_list (WL.out ?_)
        refine WL.val (by kernel_rfl) (.int .i64 ((u : Int) + 1)) (by go_simp) ?_
        simp only [Act.put, List.setIfInBounds_toArray, List.set_cons_zero, List.set_cons_succ]
        refine WL.val (by kernel_rfl) (.int .i64 ((k : Int) + 1)) (by go_simp) ?_
        simp only [Act.put, List.setIfInBounds_toArray, List.set_cons_zero, List.set_cons_succ]
        by_cases h13_2 : u = k
        · have hcq_ : (((u : Int) + 1) = ((k : Int) + 1)) := by omega
          refine WL.val (by kernel_rfl) (.bool true) (by go_simp) ?_
          simp only [Act.put, List.setIfInBounds_toArray, List.set_cons_zero, List.set_cons_succ]
          refine WL.val (by kernel_rfl) (.bool true) (by go_simp) ?_
          simp only [Act.put, List.setIfInBounds_toArray, List.set_cons_zero, List.set_cons_succ]
          refine WL.skip (by kernel_rfl) ?_
          simp only [Act.put, List.setIfInBounds_toArray, List.set_cons_zero, List.set_cons_succ]
          refine WL.skip (by kernel_rfl) ?_
          simp only [Act.put, List.setIfInBounds_toArray, List.set_cons_zero, List.set_cons_succ]
          refine WL.skip (by kernel_rfl) ?_
          simp only [Act.put, List.setIfInBounds_toArray, List.set_cons_zero, List.set_cons_succ]
          refine WL.skip (by kernel_rfl) ?_
          simp only [Act.put, List.setIfInBounds_toArray, List.set_cons_zero, List.set_cons_succ]
          refine WL.skip (by kernel_rfl) ?_
          simp only [Act.put, List.setIfInBounds_toArray, List.set_cons_zero, List.set_cons_succ]
          refine WL.skip (by kernel_rfl) ?_
          simp only [Act.put, List.setIfInBounds_toArray, List.set_cons_zero, List.set_cons_succ]
          refine WL.val (by kernel_rfl) (.bool true) (by go_simp) ?_
          simp only [Act.put, List.setIfInBounds_toArray, List.set_cons_zero, List.set_cons_succ]
          refine WL.val (by kernel_rfl) (.bool true) (by go_simp) ?_
          simp only [Act.put, List.setIfInBounds_toArray, List.set_cons_zero, List.set_cons_succ]
          refine WL.nil ?_
          refine hK18 _ _ ?_
          refine wp_seq_k fun K19 hK19 => ?_
          refine wp_region_list (WL.out ?_)
          refine WL.val (by kernel_rfl) (.bool true) (by go_simp) ?_
          simp only [Act.put, List.setIfInBounds_toArray, List.set_cons_zero, List.set_cons_succ]
          refine WL.val (by kernel_rfl) (.bool false) (by go_simp) ?_
          simp only [Act.put, List.setIfInBounds_toArray, List.set_cons_zero, List.set_cons_succ]
          refine WL.nil ?_
          refine hK19 _ _ ?_
          refine wp_cond_false rfl ?_
          refine wp_skip ?_
          refine hK10 _ _ ?_
          refine wp_region_list (WL.out ?_)
          refine WL.val (by kernel_rfl) (.int .i64 ((k : Int) + 1)) (by go_simp) ?_
          simp only [Act.put, List.setIfInBounds_toArray, List.set_cons_zero, List.set_cons_succ]
          have hw6 : IntKind.i64.wrap ((k : Int) + 1 + 1) = ((k + 1 : Nat) : Int) + 1 := by rw [IntKind.wrap_i64]; omega
          refine WL.val (by kernel_rfl) (.int .i64 (((k + 1 : Nat) : Int) + 1)) (by go_simp) ?_
          clear hw6
          simp only [Act.put, List.setIfInBounds_toArray, List.set_cons_zero, List.set_cons_succ]
          refine WL.val (by kernel_rfl) (.int .i64 (((k + 1 : Nat) : Int) + 1)) (by go_simp) ?_
          simp only [Act.put, List.setIfInBounds_toArray, List.set_cons_zero, List.set_cons_succ]
          refine WL.nil ?_
          try simp only [Exit.inBlock, Exit.then]
          refine ⟨⟨k + 1, y4, .int .i64 (d : Int), y8, .bool true, .int .i64 ((k : Int) + 1), .pointer (some ⟨b3, 1, none⟩), .pointer (some ⟨x, 0, none⟩), .pointer (some ⟨x, 0, none⟩), .pointer (some ⟨x, 0, none⟩), .int .i64 (N : Int), .bool true, .int .i64 ((k : Int) + 1), .int .i64 (((k + 1 : Nat) : Int) + 1), .pointer (some ⟨b3, 1, none⟩), .pointer (some ⟨x, 0, none⟩), .int .i64 ((u : Int) + 1), .int .i64 ((k : Int) + 1), .int .i64 (c : Int), .int .i64 (d : Int), .bool false, y35, y36, y37, y38, y39, y40, y41, y42, y43, y44, .int .i64 ((u : Int) + 1), .int .i64 ((k : Int) + 1), .bool true, .bool true, undef, undef, undef, undef, undef, undef, .bool true, .bool true, .bool false, rfl, ⟨by omega⟩, by first | exact N6 | exact HL⟩, ?_⟩
          simp only [intOf]
          show 10 - ((((k + 1 : Nat) : Int) + 1)).toNat < 10 - (((k : Int) + 1)).toNat
          omega
        · have hcq_ : ¬ (((u : Int) + 1) = ((k : Int) + 1)) := by omega
          refine WL.val (by kernel_rfl) (.bool false) (by go_simp) ?_
          simp only [Act.put, List.setIfInBounds_toArray, List.set_cons_zero, List.set_cons_succ]
          refine WL.val (by kernel_rfl) (.bool false) (by go_simp) ?_
          simp only [Act.put, List.setIfInBounds_toArray, List.set_cons_zero, List.set_cons_succ]
          refine WL.row (by kernel_rfl) 34 (.tmp 2) rfl b3 rfl 34 #[.pointer (some ⟨p, 0, none⟩), .pointer (some ⟨x, 0, none⟩)] _ (G2.out.blk Q3.out fun e => HF3.out _ e rfl) Tryd.underlying34 rfl (by kernel_rfl) ?_
          simp only [Act.put, List.setIfInBounds_toArray, List.set_cons_zero, List.set_cons_succ]
          refine WL.val (by kernel_rfl) (.int .i64 ((u : Int) + 1)) (by go_simp) ?_
          simp only [Act.put, List.setIfInBounds_toArray, List.set_cons_zero, List.set_cons_succ]
          refine WL.val (by kernel_rfl) (.int .i64 ((k : Int) + 1)) (by go_simp) ?_
          simp only [Act.put, List.setIfInBounds_toArray, List.set_cons_zero, List.set_cons_succ]
          refine WL.bld (by kernel_rfl) 41 _ rfl [(1, .int .i64 ((u : Int) + 1)), (2, .int .i64 ((k : Int) + 1))] (by simp [Act.eval]) #[.int .i64 0, .int .i64 ((u : Int) + 1), .int .i64 ((k : Int) + 1), .int .i64 0, .int .i64 0, .int .i64 0, .int .u8 0, .slice none 0 0] (bldSp _ _) ?_
          simp only [Act.put, List.setIfInBounds_toArray, List.set_cons_zero, List.set_cons_succ]
          refine WL.val (by kernel_rfl) (.pointer (some ⟨q, 0, none⟩)) (by go_simp) ?_
          simp only [Act.put, List.setIfInBounds_toArray, List.set_cons_zero, List.set_cons_succ]
          refine WL.callF (by kernel_rfl) 24 _ _ rfl Tryd.in24 #[.agg #[.pointer (some ⟨p, 0, none⟩), .pointer (some ⟨x, 0, none⟩)], .agg #[.int .i64 0, .int .i64 ((u : Int) + 1), .int .i64 ((k : Int) + 1), .int .i64 0, .int .i64 0, .int .i64 0, .int .u8 0, .slice none 0 0], .pointer (some ⟨q, 0, none⟩)] (by simp [Act.eval]) ?_
          refine (tka_any wd p mb x g N q P4 K4 vo4 vw4 n4 O4 W4 qe 0 ((u : Int) + 1) ((k : Int) + 1) 0 0 0 0 (.slice none 0 0) G1 ⟨HE1.out.grown G2.out HZ.out⟩ ⟨fun e => ((G3.out 0 (.inl e)).elim HZ.out fun e2 => by have := HS1.out; omega)⟩).mono ?_
          rintro e w6 ⟨rfl, ht9⟩
          refine ⟨_, rfl, ?_⟩
          clear c3_0 c3_1 cx_0
          have N6 : Keep (TI w1 p mb x g N Ps Ks q vo vw O Ws w6) := ⟨TI.trans (G1.out) (G2.out) (G3.out) ht9⟩
          clear ht9
          simp only [Act.put, List.setIfInBounds_toArray, List.set_cons_zero, List.set_cons_succ]
          refine WL.val (by kernel_rfl) (.bool true) (by go_simp) ?_
          simp only [Act.put, List.setIfInBounds_toArray, List.set_cons_zero, List.set_cons_succ]
          refine WL.val (by kernel_rfl) (.bool true) (by go_simp) ?_
          simp only [Act.put, List.setIfInBounds_toArray, List.set_cons_zero, List.set_cons_succ]
          refine WL.nil ?_
          refine hK18 _ _ ?_
          refine wp_seq_k fun K20 hK20 => ?_
          refine wp_region_list (WL.out ?_)
          refine WL.val (by kernel_rfl) (.bool true) (by go_simp) ?_
          simp only [Act.put, List.setIfInBounds_toArray, List.set_cons_zero, List.set_cons_succ]
          refine WL.val (by kernel_rfl) (.bool false) (by go_simp) ?_
          simp only [Act.put, List.setIfInBounds_toArray, List.set_cons_zero, List.set_cons_succ]
          refine WL.nil ?_
          refine hK20 _ _ ?_
          refine wp_cond_false rfl ?_
          refine wp_skip ?_
          refine hK10 _ _ ?_
          refine wp_region_list (WL.out ?_)
          refine WL.val (by kernel_rfl) (.int .i64 ((k : Int) + 1)) (by go_simp) ?_
          simp only [Act.put, List.setIfInBounds_toArray, List.set_cons_zero, List.set_cons_succ]
          have hw6 : IntKind.i64.wrap ((k : Int) + 1 + 1) = ((k + 1 : Nat) : Int) + 1 := by rw [IntKind.wrap_i64]; omega
          refine WL.val (by kernel_rfl) (.int .i64 (((k + 1 : Nat) : Int) + 1)) (by go_simp) ?_
          clear hw6
          simp only [Act.put, List.setIfInBounds_toArray, List.set_cons_zero, List.set_cons_succ]
          refine WL.val (by kernel_rfl) (.int .i64 (((k + 1 : Nat) : Int) + 1)) (by go_simp) ?_
          simp only [Act.put, List.setIfInBounds_toArray, List.set_cons_zero, List.set_cons_succ]
          refine WL.nil ?_
          try simp only [Exit.inBlock, Exit.then]
          refine ⟨⟨k + 1, y4, .int .i64 (d : Int), y8, .bool true, .int .i64 ((k : Int) + 1), .pointer (some ⟨b3, 1, none⟩), .pointer (some ⟨x, 0, none⟩), .pointer (some ⟨x, 0, none⟩), .pointer (some ⟨x, 0, none⟩), .int .i64 (N : Int), .bool true, .int .i64 ((k : Int) + 1), .int .i64 (((k + 1 : Nat) : Int) + 1), .pointer (some ⟨b3, 1, none⟩), .pointer (some ⟨x, 0, none⟩), .int .i64 ((u : Int) + 1), .int .i64 ((k : Int) + 1), .int .i64 (c : Int), .int .i64 (d : Int), .bool false, y35, y36, y37, y38, y39, y40, y41, y42, y43, y44, .int .i64 ((u : Int) + 1), .int .i64 ((k : Int) + 1), .bool false, .bool false, .agg #[.pointer (some ⟨p, 0, none⟩), .pointer (some ⟨x, 0, none⟩)], .int .i64 ((u : Int) + 1), .int .i64 ((k : Int) + 1), .agg #[.int .i64 0, .int .i64 ((u : Int) + 1), .int .i64 ((k : Int) + 1), .int .i64 0, .int .i64 0, .int .i64 0, .int .u8 0, .slice none 0 0], .pointer (some ⟨q, 0, none⟩), .bool true, .bool true, .bool true, .bool false, rfl, ⟨by omega⟩, by first | exact N6 | exact HL⟩, ?_⟩
          simp only [intOf]
          show 10 - ((((k + 1 : Nat) : Int) + 1)).toNat < 10 - (((k : Int) + 1)).toNat
          omega
    · have hck_ : ¬ (((k : Int) + 1) ≤ (N : Int)) := by omega
      refine WL.val (by kernel_rfl) (.bool false) (by go_simp) ?_
      simp only [Act.put, List.setIfInBounds_toArray, List.set_cons_zero, List.set_cons_succ]
      refine WL.nil ?_
      refine hK9 _ _ ?_
      refine wp_cond_false rfl ?_
      refine wp_exit ?_
      refine hK6 _ _ ?_
      refine wp_region_list (WL.out ?_)
      refine WL.val (by kernel_rfl) (.int .i64 ((u : Int) + 1)) (by go_simp) ?_
      simp only [Act.put, List.setIfInBounds_toArray, List.set_cons_zero, List.set_cons_succ]
      have hw6 : IntKind.i64.wrap ((u : Int) + 1 + 1) = ((u + 1 : Nat) : Int) + 1 := by rw [IntKind.wrap_i64]; omega
      refine WL.val (by kernel_rfl) (.int .i64 (((u + 1 : Nat) : Int) + 1)) (by go_simp) ?_
      clear hw6
      simp only [Act.put, List.setIfInBounds_toArray, List.set_cons_zero, List.set_cons_succ]
      refine WL.val (by kernel_rfl) (.int .i64 (((u + 1 : Nat) : Int) + 1)) (by go_simp) ?_
      simp only [Act.put, List.setIfInBounds_toArray, List.set_cons_zero, List.set_cons_succ]
      refine WL.nil ?_
      try simp only [Exit.inBlock, Exit.then]
      refine ⟨⟨u + 1, z4, .int .i64 ((k : Int) + 1), z7, z8, z9, .int .i64 ((u : Int) + 1), .pointer (some ⟨b3, 1, none⟩), .pointer (some ⟨x, 0, none⟩), .pointer (some ⟨x, 0, none⟩), .pointer (some ⟨x, 0, none⟩), .int .i64 (N : Int), .bool true, .int .i64 ((u : Int) + 1), .int .i64 (((u + 1 : Nat) : Int) + 1), .int .i64 ((k : Int) + 1), .pointer (some ⟨b3, 1, none⟩), .pointer (some ⟨x, 0, none⟩), .pointer (some ⟨x, 0, none⟩), .pointer (some ⟨x, 0, none⟩), .int .i64 (N : Int), .bool false, z26, z27, z28, z29, z30, z31, z32, z33, z34, z35, z36, z37, z38, z39, z40, z41, z42, z43, z44, z45, z46, z47, z48, z49, z50, z51, z52, z53, z54, z55, z56, z57, rfl, ⟨by omega⟩, HM⟩, ?_⟩
      simp only [intOf]
      show 10 - ((((u + 1 : Nat) : Int) + 1)).toNat < 10 - (((u : Int) + 1)).toNat
      omega
  · have hcu_ : ¬ (((u : Int) + 1) ≤ (N : Int)) := by omega
    refine WL.val (by kernel_rfl) (.bool false) (by go_simp) ?_
    simp only [Act.put, List.setIfInBounds_toArray, List.set_cons_zero, List.set_cons_succ]
    refine WL.nil ?_
    refine hK5 _ _ ?_
    refine wp_cond_false rfl ?_
    refine wp_exit ?_
    refine hK2 _ _ ?_
    refine wp_seq_k fun K21 hK21 => ?_
    refine wp_region_list (WL.out ?_)
    refine WL.val (by kernel_rfl) (.bool true) (by go_simp) ?_
    simp only [Act.put, List.setIfInBounds_toArray, List.set_cons_zero, List.set_cons_succ]
    refine WL.nil ?_
    refine hK21 _ _ ?_
    refine wp_ret ?_
    try simp only [Exit.inBlock, Exit.then]
    go_ret
    exact ⟨rfl, TI.of_below HB1.out HN.out⟩

theorem TI.of_pr {w w' : World} {p mb x g N q : Nat} {P K P' K' : List Lk} {vo vw : Value} {n : Int} {O Ws : List (Value × List Int)} (h : TS w p mb x g N P K q vo vw n O Ws) (k : PrN w p mb x g N P K P' K' w') (e : EqL P' K') : TI w p mb x g N P K q vo vw O Ws w' := by
  obtain ⟨a, b, c⟩ := h.after (Below.refl w.heap.size w) k e
  exact ⟨P', K', vo, vw, n, O, Ws, a, b, c⟩
theorem step_any (w : World) (p mb x g N q : Nat) (Ps Ks : List Lk) (vo vw : Value) (n : Int) (O Ws : List (Value × List Int)) (qe : Addr) (kd f t i j m by_ : Int) (ba : Option Addr) (bn bc : Nat) (b : List Int) (HT : Keep (TS w p mb x g N Ps Ks q vo vw n O Ws)) (HE : Keep (ErrI w qe)) (HZ : Keep (¬ PrS p mb x g Ps Ks 0)) (HB8 : Keep (0 ≤ by_ ∧ by_ < 256)) (HB : Keep (RowAt w (.slice ba bn bc) b)) (Hbn : Keep (b.length = bn)) (HBy : Keep (Byts b)) (HD : Keep (b ≠ [] → ∀ k, (Value.slice ba bn bc).ownBlock = some k → ¬ PrS p mb x g Ps Ks k ∧ k < w.heap.size)) (HL : Keep (bn ≤ 140737488355328)) : Calls Tryd.prog 10 #[.agg #[.pointer (some ⟨p, 0, none⟩), .pointer (some ⟨x, 0, none⟩)], .agg #[.int .i64 kd, .int .i64 f, .int .i64 t, .int .i64 i, .int .i64 j, .int .i64 m, .int .u8 by_, .slice ba bn bc], .pointer (some ⟨q, 0, none⟩)] w fun e w' => e = .returned (.bool true) ∧ TI w p mb x g N Ps Ks q vo vw O Ws w' := by
  have HR : Keep (PR w p mb x g N Ps Ks) := ⟨HT.out.pr⟩
  have HEq : Keep (EqL Ps Ks) := ⟨HT.out.eq⟩
  by_cases hk1 : kd = 1
  · subst hk1
    exact (st_send w p mb x g N Ps Ks f t i j m by_ ba bn bc b HR HEq HB Hbn HBy HD HL (.pointer (some ⟨q, 0, none⟩))).mono fun e w' ⟨h1, P', K', h2, h3⟩ => ⟨h1, TI.of_pr HT.out h2 h3⟩
  by_cases hk2 : kd = 2
  · subst hk2
    exact st_take w p mb x g N q Ps Ks vo vw n O Ws qe f t i j m by_ (.slice ba bn bc) HT HE HZ
  by_cases hk3 : kd = 3
  · subst hk3
    exact (st_drop w p mb x g N Ps Ks f t i j m by_ (.slice ba bn bc) (.pointer (some ⟨q, 0, none⟩)) rfl HR HEq).mono fun e w' ⟨h1, P', K', h2, h3⟩ => ⟨h1, TI.of_pr HT.out h2 h3⟩
  by_cases hk4 : kd = 4
  · subst hk4
    exact (st_twice w p mb x g N Ps Ks f t i j m by_ (.slice ba bn bc) (.pointer (some ⟨q, 0, none⟩)) rfl HR HEq).mono fun e w' ⟨h1, P', K', h2, h3⟩ => ⟨h1, TI.of_pr HT.out h2 h3⟩
  by_cases hk5 : kd = 5
  · subst hk5
    exact (st_swap w p mb x g N Ps Ks f t i j m by_ (.slice ba bn bc) (.pointer (some ⟨q, 0, none⟩)) rfl HR HEq).mono fun e w' ⟨h1, P', K', h2, h3⟩ => ⟨h1, TI.of_pr HT.out h2 h3⟩
  by_cases hk6 : kd = 6
  · subst hk6
    exact (st_flip w p mb x g N Ps Ks f t i j m by_ (.slice ba bn bc) (.pointer (some ⟨q, 0, none⟩)) HB8 rfl HR HEq).mono fun e w' ⟨h1, P', K', h2, h3⟩ => ⟨h1, TI.of_pr HT.out h2 h3⟩
  by_cases hk7 : kd = 7
  · subst hk7
    exact (st_clip w p mb x g N Ps Ks f t i j m by_ (.slice ba bn bc) (.pointer (some ⟨q, 0, none⟩)) rfl HR HEq).mono fun e w' ⟨h1, P', K', h2, h3⟩ => ⟨h1, TI.of_pr HT.out h2 h3⟩
  by_cases hk8 : kd = 8
  · subst hk8
    exact (st_clear w p mb x g N Ps Ks f t i j m by_ (.slice ba bn bc) (.pointer (some ⟨q, 0, none⟩)) rfl HR HEq).mono fun e w' ⟨h1, P', K', h2, h3⟩ => ⟨h1, TI.of_pr HT.out h2 h3⟩
  by_cases hk9 : kd = 9
  · subst hk9
    exact (st_many w p mb x g N Ps Ks f t i j m by_ ba bn bc b HR HEq HB Hbn HBy HD (.pointer (some ⟨q, 0, none⟩))).mono fun e w' ⟨h1, P', K', h2, h3⟩ => ⟨h1, TI.of_pr HT.out h2 h3⟩
  exact (st_len w p mb x g N Ps Ks f t i j m by_ (.slice ba bn bc) (.pointer (some ⟨q, 0, none⟩)) kd hk1 hk2 hk3 hk4 hk5 hk6 hk7 hk8 hk9 rfl HR HEq).mono fun e w' ⟨h1, P', K', h2, h3⟩ => ⟨h1, TI.of_pr HT.out h2 h3⟩
theorem hold_any {w : World} {q : Nat} {vo vw : Value} {n : Int} {O Ws : List (Value × List Int)} (h : BkAt w q vo vw n O Ws) : Calls Tryd.prog 12 #[.pointer (some ⟨q, 0, none⟩)] w fun e w' => e = .returned (.bool true) ∧ Below w.heap.size w w' := by
  obtain ⟨la, ca, hvo⟩ := owns_sl h.lo
  obtain ⟨lb, cb, hvw⟩ := owns_sl h.lw
  have hln : Ws.length = O.length := by have := congrArg List.length h.eq; simpa using this.symm
  have HS : ∀ wx, Below w.heap.size w wx → wx.cell? ⟨q, 0, none⟩ = some (.slice la O.length ca) ∧ wx.cell? ⟨q, 1, none⟩ = some (.slice lb O.length cb) ∧ RwR wx la O ∧ RwR wx lb Ws := fun wx hb => by
    have h2 := h.below hb
    refine ⟨by rw [← hvo]; exact h2.bq.c 0 rfl, by rw [← hln, ← hvw]; exact h2.bq.c 1 rfl, rwr_of h2.lo hvo fun r hr => ⟨(h2.ro r hr).1, (h2.ro r hr).2.2⟩, rwr_of h2.lw hvw h2.rw_⟩
  refine (holds_any q O.length ca cb la lb O Ws w ⟨rfl⟩ ⟨hln⟩ ⟨by have := h.few; omega⟩ ⟨HS⟩).mono fun e w' h9 => ?_
  obtain ⟨b, e1, e2, e3⟩ := h9
  have hb : b = true := e2 fun i x y hx hy => by
    have h1 := congrArg (fun l => l[i]?) h.eq
    simpa [List.getElem?_map, hx, hy] using h1
  exact ⟨by rw [e1, hb], e3⟩

theorem Tryd.in11 (w : World) (vs : Array Value) : (callFunc 11 vs).run Tryd.prog w = .ok (.enter 11 vs) w := by kernel_rfl
set_option maxRecDepth 8000 in
theorem lens_any (w : World) (p mb x g N : Nat) (Ps Ks : List Lk) (HR : Keep (PR w p mb x g N Ps Ks)) (HEq : Keep (EqL Ps Ks)) : Calls Tryd.prog 11 #[.agg #[.pointer (some ⟨p, 0, none⟩), .pointer (some ⟨x, 0, none⟩)]] w fun e w' => e = .returned (.bool true) ∧ PrN w p mb x g N Ps Ks Ps Ks w' := by
  go_enter Tryd.func11, Tryd.ntmps11
  refine wp_seq_k fun K1 hK1 => ?_
  refine wp_region_list (WL.out ?_)
  refine WL.box (by kernel_rfl) 34 (.tmp 0) rfl #[.pointer (some ⟨p, 0, none⟩), .pointer (some ⟨x, 0, none⟩)] rfl ?_
  have b1 := below_new w (.cells #[.pointer (some ⟨p, 0, none⟩), .pointer (some ⟨x, 0, none⟩)] 34)
  have Q3 := Keep.mk (Blk.new w 34 #[.pointer (some ⟨p, 0, none⟩), .pointer (some ⟨x, 0, none⟩)])
  generalize w.alloc (.cells #[.pointer (some ⟨p, 0, none⟩), .pointer (some ⟨x, 0, none⟩)] 34) = w1 at *
  obtain ⟨b3, hb3⟩ : ∃ z, Keep (z = w.heap.size) := ⟨_, ⟨rfl⟩⟩
  rw [← hb3.out] at Q3 ⊢
  have HB1 : Keep (Below w.heap.size w w1) := ⟨b1⟩
  have R1 := Keep.mk (HR.out.below HB1.out)
  have HF3 : Keep (∀ k, PrS p mb x g Ps Ks k → k ≠ b3) := ⟨fun k hk => by have := HR.out.lt k hk; have := hb3.out; omega⟩
  clear b1
  simp only [Act.put, List.setIfInBounds_toArray, List.set_cons_zero, List.set_cons_succ]
  refine WL.val (by kernel_rfl) (.bool false) (by go_simp) ?_
  simp only [Act.put, List.setIfInBounds_toArray, List.set_cons_zero, List.set_cons_succ]
  refine WL.nil ?_
  refine hK1 _ _ ?_
  refine wp_seq_k fun K2 hK2 => ?_
  refine wp_seq_k fun K3 hK3 => ?_
  refine wp_region_list (WL.out ?_)
  refine WL.val (by kernel_rfl) (.int .i64 (-1)) (by go_simp) ?_
  simp only [Act.put, List.setIfInBounds_toArray, List.set_cons_zero, List.set_cons_succ]
  refine WL.nil ?_
  refine hK3 _ _ ?_
  refine wp_block ?_
  refine wp_loop (fun ac wr => ∃ (u : Nat) (u2 u4 u5 u6 u7 u8 u9 u10 u11 u12 u13 u14 u15 u16 u17 u18 u19 u20 u21 u22 u23 u24 u25 : Value), ac = { tmps := #[.agg #[.pointer (some ⟨p, 0, none⟩), .pointer (some ⟨x, 0, none⟩)], .pointer (some ⟨b3, 0, none⟩), u2, .int .i64 ((u : Int) - 1), u4, u5, u6, u7, u8, u9, u10, u11, u12, u13, u14, u15, u16, u17, u18, u19, u20, u21, u22, u23, u24, u25], defers := [] } ∧ Keep (u ≤ 11) ∧ Keep (PrN w1 p mb x g N Ps Ks Ps Ks wr)) (fun a _ => 12 - (intOf (a.tmps.getD 3 undef) + 1).toNat) ⟨0, .bool false, undef, undef, undef, undef, undef, undef, undef, undef, undef, undef, undef, undef, undef, undef, undef, undef, undef, undef, undef, undef, undef, undef, rfl, ⟨by omega⟩, ⟨PrN.refl R1.out⟩⟩ ?_
  rintro ac wr ⟨u, u2, u4, u5, u6, u7, u8, u9, u10, u11, u12, u13, u14, u15, u16, u17, u18, u19, u20, u21, u22, u23, u24, u25, rfl, HF, HN⟩
  obtain ⟨hu9⟩ := HF
  refine wp_seq_k fun K4 hK4 => ?_
  refine wp_seq_k fun K5 hK5 => ?_
  refine wp_region_list (WL.out ?_)
  refine WL.val (by kernel_rfl) (.int .i64 ((u : Int) - 1)) (by go_simp) ?_
  simp only [Act.put, List.setIfInBounds_toArray, List.set_cons_zero, List.set_cons_succ]
  by_cases h2_1 : u < 11
  · have hcu_ : ((u : Int) - 1 < 10) := by omega
    refine WL.val (by kernel_rfl) (.bool true) (by go_simp) ?_
    simp only [Act.put, List.setIfInBounds_toArray, List.set_cons_zero, List.set_cons_succ]
    refine WL.nil ?_
    refine hK5 _ _ ?_
    refine wp_cond_true rfl ?_
    refine wp_skip ?_
    refine hK4 _ _ ?_
    refine wp_seq_k fun K6 hK6 => ?_
    refine wp_block ?_
    refine wp_seq_k fun K7 hK7 => ?_
    refine wp_region_list (WL.out ?_)
    refine WL.val (by kernel_rfl) (.int .i64 (-1)) (by go_simp) ?_
    simp only [Act.put, List.setIfInBounds_toArray, List.set_cons_zero, List.set_cons_succ]
    refine WL.nil ?_
    refine hK7 _ _ ?_
    refine wp_block ?_
    refine wp_loop (fun ac wi => ∃ (k : Nat) (z2 z5 z10 z11 z12 z13 z14 z15 z16 z17 z18 z19 z20 z21 z22 z23 z24 z25 : Value), ac = { tmps := #[.agg #[.pointer (some ⟨p, 0, none⟩), .pointer (some ⟨x, 0, none⟩)], .pointer (some ⟨b3, 0, none⟩), z2, .int .i64 ((u : Int) - 1), .int .i64 ((k : Int) - 1), z5, .int .i64 ((u : Int) - 1), .bool true, u8, u9, z10, z11, z12, z13, z14, z15, z16, z17, z18, z19, z20, z21, z22, z23, z24, z25], defers := [] } ∧ Keep (k ≤ 11) ∧ Keep (PrN w1 p mb x g N Ps Ks Ps Ks wi)) (fun a _ => 12 - (intOf (a.tmps.getD 4 undef) + 1).toNat) ⟨0, u2, u5, u10, u11, u12, u13, u14, u15, u16, u17, u18, u19, u20, u21, u22, u23, u24, u25, rfl, ⟨by omega⟩, HN⟩ ?_
    rintro ac wi ⟨k, z2, z5, z10, z11, z12, z13, z14, z15, z16, z17, z18, z19, z20, z21, z22, z23, z24, z25, rfl, HG, HM⟩
    obtain ⟨hk9⟩ := HG
    have X3 := HM.out.gr.blk Q3.out fun e => HF3.out _ e rfl
    have c3_0 := X3.c 0 (rfl : _ = some (Value.pointer (some ⟨p, 0, none⟩)))
    have c3_1 := X3.c 1 (rfl : _ = some (Value.pointer (some ⟨x, 0, none⟩)))
    clear X3
    refine wp_seq_k fun K8 hK8 => ?_
    refine wp_seq_k fun K9 hK9 => ?_
    refine wp_region_list (WL.out ?_)
    refine WL.val (by kernel_rfl) (.int .i64 ((k : Int) - 1)) (by go_simp) ?_
    simp only [Act.put, List.setIfInBounds_toArray, List.set_cons_zero, List.set_cons_succ]
    by_cases h5_1 : k < 11
    · have hck_ : ((k : Int) - 1 < 10) := by omega
      refine WL.val (by kernel_rfl) (.bool true) (by go_simp) ?_
      simp only [Act.put, List.setIfInBounds_toArray, List.set_cons_zero, List.set_cons_succ]
      refine WL.nil ?_
      refine hK9 _ _ ?_
      refine wp_cond_true rfl ?_
      refine wp_skip ?_
      refine hK8 _ _ ?_
      refine wp_seq_k fun K10 hK10 => ?_
      refine wp_block ?_
      refine wp_seq_k fun K11 hK11 => ?_
      refine wp_region_list (WL.out ?_)
      refine WL.val (by kernel_rfl) (.pointer (some ⟨b3, 0, none⟩)) (by go_simp) ?_
      simp only [Act.put, List.setIfInBounds_toArray, List.set_cons_zero, List.set_cons_succ]
      refine WL.val (by kernel_rfl) (.pointer (some ⟨p, 0, none⟩)) (by go_simp) ?_
      simp only [Act.put, List.setIfInBounds_toArray, List.set_cons_zero, List.set_cons_succ]
      refine WL.val (by kernel_rfl) (.int .i64 ((u : Int) - 1)) (by go_simp) ?_
      simp only [Act.put, List.setIfInBounds_toArray, List.set_cons_zero, List.set_cons_succ]
      refine WL.val (by kernel_rfl) (.int .i64 ((k : Int) - 1)) (by go_simp) ?_
      simp only [Act.put, List.setIfInBounds_toArray, List.set_cons_zero, List.set_cons_succ]
      obtain ⟨la, n, cap, hlv⟩ : ∃ la n cap, (if thr N ((u : Int) - 1) ((k : Int) - 1) = true then (lkOf Ps ((u : Int) - 1) ((k : Int) - 1)).v else .slice none 0 0) = Value.slice la n cap ∧ (n : Int) = lenI N Ps ((u : Int) - 1) ((k : Int) - 1) := by
        unfold lenI
        cases ht : thr N ((u : Int) - 1) ((k : Int) - 1)
        · exact ⟨none, 0, 0, rfl, rfl⟩
        · obtain ⟨a, c, hv⟩ := (HM.out.at_.pm.link ht).2.sl
          exact ⟨a, _, c, by rw [if_pos rfl, hv], rfl⟩
      refine WL.callF (by kernel_rfl) 18 _ _ rfl Tryd.in18 #[.pointer (some ⟨p, 0, none⟩), .int .i64 ((u : Int) - 1), .int .i64 ((k : Int) - 1)] (by simp [Act.eval]) ?_
      refine (pln wi p mb N Ps ((u : Int) - 1) ((k : Int) - 1) la n cap ⟨hlv.1⟩ ⟨HM.out.at_.pm⟩).mono ?_
      rintro e w3 ⟨rfl, n1⟩
      refine ⟨_, rfl, ?_⟩
      clear c3_0 c3_1
      have hln := hlv.2
      have N3 := Keep.mk (HM.out.trans (HM.out.at_.prog n1))
      rw [hln, HEq.out.ln]
      obtain ⟨er, her⟩ : ∃ z, z = lenI N Ks ((u : Int) - 1) ((k : Int) - 1) := ⟨_, rfl⟩
      rw [← her]
      have Her := Keep.mk her
      clear hlv n1 hln her
      have X3 := N3.out.gr.blk Q3.out fun e => HF3.out _ e rfl
      have c3_0 := X3.c 0 (rfl : _ = some (Value.pointer (some ⟨p, 0, none⟩)))
      have c3_1 := X3.c 1 (rfl : _ = some (Value.pointer (some ⟨x, 0, none⟩)))
      clear X3
      simp only [Act.put, List.setIfInBounds_toArray, List.set_cons_zero, List.set_cons_succ]
      refine WL.val (by kernel_rfl) (.int .i64 er) (by go_simp) ?_
      simp only [Act.put, List.setIfInBounds_toArray, List.set_cons_zero, List.set_cons_succ]
      refine WL.nil ?_
      refine hK11 _ _ ?_
      refine wp_seq_k fun K12 hK12 => ?_
      refine wp_region_list (WL.out ?_)
      refine WL.val (by kernel_rfl) (.int .i64 er) (by go_simp) ?_
      simp only [Act.put, List.setIfInBounds_toArray, List.set_cons_zero, List.set_cons_succ]
      refine WL.val (by kernel_rfl) (.pointer (some ⟨b3, 1, none⟩)) (by go_simp) ?_
      simp only [Act.put, List.setIfInBounds_toArray, List.set_cons_zero, List.set_cons_succ]
      refine WL.val (by kernel_rfl) (.pointer (some ⟨x, 0, none⟩)) (by go_simp) ?_
      simp only [Act.put, List.setIfInBounds_toArray, List.set_cons_zero, List.set_cons_succ]
      refine WL.val (by kernel_rfl) (.int .i64 ((u : Int) - 1)) (by go_simp) ?_
      simp only [Act.put, List.setIfInBounds_toArray, List.set_cons_zero, List.set_cons_succ]
      refine WL.val (by kernel_rfl) (.int .i64 ((k : Int) - 1)) (by go_simp) ?_
      simp only [Act.put, List.setIfInBounds_toArray, List.set_cons_zero, List.set_cons_succ]
      refine WL.callF (by kernel_rfl) 34 _ _ rfl Tryd.in34 #[.pointer (some ⟨x, 0, none⟩), .int .i64 ((u : Int) - 1), .int .i64 ((k : Int) - 1)] (by simp [Act.eval]) ?_
      refine (rlen_any w3 x g N Ks ((u : Int) - 1) ((k : Int) - 1) N3.out.at_.rm).mono ?_
      rintro e w3_ ⟨rfl, hw_⟩
      refine ⟨_, rfl, ?_⟩
      have hw_ := hw_.symm
      subst hw_
      rw [← Her.out]
      simp only [Act.put, List.setIfInBounds_toArray, List.set_cons_zero, List.set_cons_succ]
      refine WL.val (by kernel_rfl) (.bool false) (by go_simp) ?_
      simp only [Act.put, List.setIfInBounds_toArray, List.set_cons_zero, List.set_cons_succ]
      refine WL.nil ?_
      refine hK12 _ _ ?_
      refine wp_cond_false rfl ?_
      refine wp_skip ?_
      refine hK10 _ _ ?_
      refine wp_region_list (WL.out ?_)
      refine WL.val (by kernel_rfl) (.int .i64 ((k : Int) - 1)) (by go_simp) ?_
      simp only [Act.put, List.setIfInBounds_toArray, List.set_cons_zero, List.set_cons_succ]
      have hw6 : IntKind.i64.wrap (k : Int) = (k : Int) := by rw [IntKind.wrap_i64]; omega
      refine WL.val (by kernel_rfl) (.int .i64 (((k + 1 : Nat) : Int) - 1)) (by go_simp) ?_
      clear hw6
      simp only [Act.put, List.setIfInBounds_toArray, List.set_cons_zero, List.set_cons_succ]
      refine WL.val (by kernel_rfl) (.int .i64 (((k + 1 : Nat) : Int) - 1)) (by go_simp) ?_
      simp only [Act.put, List.setIfInBounds_toArray, List.set_cons_zero, List.set_cons_succ]
      refine WL.nil ?_
      refine ⟨⟨k + 1, z2, .int .i64 er, .int .i64 ((k : Int) - 1), .bool true, .int .i64 ((k : Int) - 1), .int .i64 (((k + 1 : Nat) : Int) - 1), .pointer (some ⟨b3, 0, none⟩), .pointer (some ⟨p, 0, none⟩), .int .i64 ((u : Int) - 1), .int .i64 ((k : Int) - 1), .int .i64 er, .int .i64 er, .pointer (some ⟨b3, 1, none⟩), .pointer (some ⟨x, 0, none⟩), .int .i64 ((u : Int) - 1), .int .i64 ((k : Int) - 1), .int .i64 er, .bool false, rfl, ⟨by omega⟩, N3⟩, ?_⟩
      simp only [intOf]
      show 12 - ((((k + 1 : Nat) : Int) - 1) + 1).toNat < 12 - (((k : Int) - 1) + 1).toNat
      omega
    · have hck_ : ¬ ((k : Int) - 1 < 10) := by omega
      refine WL.val (by kernel_rfl) (.bool false) (by go_simp) ?_
      simp only [Act.put, List.setIfInBounds_toArray, List.set_cons_zero, List.set_cons_succ]
      refine WL.nil ?_
      refine hK9 _ _ ?_
      refine wp_cond_false rfl ?_
      refine wp_exit ?_
      refine hK6 _ _ ?_
      refine wp_region_list (WL.out ?_)
      refine WL.val (by kernel_rfl) (.int .i64 ((u : Int) - 1)) (by go_simp) ?_
      simp only [Act.put, List.setIfInBounds_toArray, List.set_cons_zero, List.set_cons_succ]
      have hw7 : IntKind.i64.wrap (u : Int) = (u : Int) := by rw [IntKind.wrap_i64]; omega
      refine WL.val (by kernel_rfl) (.int .i64 (((u + 1 : Nat) : Int) - 1)) (by go_simp) ?_
      clear hw7
      simp only [Act.put, List.setIfInBounds_toArray, List.set_cons_zero, List.set_cons_succ]
      refine WL.val (by kernel_rfl) (.int .i64 (((u + 1 : Nat) : Int) - 1)) (by go_simp) ?_
      simp only [Act.put, List.setIfInBounds_toArray, List.set_cons_zero, List.set_cons_succ]
      refine WL.nil ?_
      try simp only [Exit.inBlock, Exit.then]
      refine ⟨⟨u + 1, z2, .int .i64 ((k : Int) - 1), z5, .int .i64 ((u : Int) - 1), .bool true, .int .i64 ((u : Int) - 1), .int .i64 (((u + 1 : Nat) : Int) - 1), .int .i64 ((k : Int) - 1), .bool false, z12, z13, z14, z15, z16, z17, z18, z19, z20, z21, z22, z23, z24, z25, rfl, ⟨by omega⟩, HM⟩, ?_⟩
      simp only [intOf]
      show 12 - ((((u + 1 : Nat) : Int) - 1) + 1).toNat < 12 - (((u : Int) - 1) + 1).toNat
      omega
  · have hcu_ : ¬ ((u : Int) - 1 < 10) := by omega
    refine WL.val (by kernel_rfl) (.bool false) (by go_simp) ?_
    simp only [Act.put, List.setIfInBounds_toArray, List.set_cons_zero, List.set_cons_succ]
    refine WL.nil ?_
    refine hK5 _ _ ?_
    refine wp_cond_false rfl ?_
    refine wp_exit ?_
    refine hK2 _ _ ?_
    refine wp_seq_k fun K13 hK13 => ?_
    refine wp_region_list (WL.out ?_)
    refine WL.val (by kernel_rfl) (.bool true) (by go_simp) ?_
    simp only [Act.put, List.setIfInBounds_toArray, List.set_cons_zero, List.set_cons_succ]
    refine WL.nil ?_
    refine hK13 _ _ ?_
    refine wp_ret ?_
    try simp only [Exit.inBlock, Exit.then]
    go_ret
    exact ⟨rfl, PrN.of_below HB1.out HN.out⟩

theorem k0_no {a : Lk} (h : a ∈ K0) : a.v.ownBlock = none ∧ a.R = [] := by
  rw [List.eq_of_mem_replicate h]; exact ⟨rfl, rfl⟩
theorem pr_new {w w1 w2 : World} {p mb x g N : Nat} (h1 : PmAt w1 p mb N 0 K0) (a1 : w.heap.size ≤ p ∧ w.heap.size ≤ mb) (b1 : Below w.heap.size w w1) (h2 : RmAt w2 x g N K0) (a2 : w1.heap.size ≤ x ∧ w1.heap.size ≤ g) (b2 : Below w1.heap.size w1 w2) :
    PR w2 p mb x g N K0 K0 ∧ EqL K0 K0 ∧ Below w.heap.size w w2 ∧ ∀ k, PrS p mb x g K0 K0 k → w.heap.size ≤ k := by
  have hr : ∀ k, RmS x g K0 k → w1.heap.size ≤ k := fun k hk => by
    rcases hk with e | ⟨e | ⟨a, ha, e⟩⟩ | ⟨a, ha, q, hq, e⟩
    · rw [e]; exact a2.1
    · rw [e]; exact a2.2
    · rw [(k0_no ha).1] at e; simp at e
    · rw [(k0_no ha).2] at hq; simp at hq
  have hp : ∀ k, PmS p mb K0 k → w.heap.size ≤ k := fun k hk => by
    rcases hk with e | e | ⟨a, ha, e | ⟨q, hq, e⟩⟩
    · rw [e]; exact a1.1
    · rw [e]; exact a1.2
    · rw [(k0_no ha).1] at e; simp at e
    · rw [(k0_no ha).2] at hq; simp at hq
  refine ⟨⟨h1.grown (Grown.below (S := fun _ => False) b2) fun _ e => e.elim, h2, fun k e e2 => ?_⟩, rfl, b1.trans (b2.mono b1.size), fun k hk => ?_⟩
  · have := h1.lt k e; have := hr k e2; omega
  · rcases hk with e | e
    · exact hp k e
    · exact Nat.le_trans b1.size (hr k e)
structure TT (A : Nat → Prop) (w : World) (p mb x g N : Nat) (P K : List Lk) (p' mb' x' g' N' : Nat) (P' K' : List Lk) (q : Nat) (vo vw : Value) (n : Int) (O Ws : List (Value × List Int)) : Prop where
  ts : TS w p mb x g N P K q vo vw n O Ws
  pr : PR w p' mb' x' g' N' P' K'
  eq : EqL P' K'
  dj : ∀ k, PrS p' mb' x' g' P' K' k → ¬ TU p mb x g P K q vo vw O Ws k
  lo : ∀ k, TU p mb x g P K q vo vw O Ws k ∨ PrS p' mb' x' g' P' K' k → A k
section
variable {w w' : World} {A : Nat → Prop} {p mb x g N p' mb' x' g' N' q : Nat} {P K P' K' : List Lk} {vo vw : Value} {n : Int} {O Ws : List (Value × List Int)}
theorem TT.swap (h : TT A w p mb x g N P K p' mb' x' g' N' P' K' q vo vw n O Ws) : TT A w p' mb' x' g' N' P' K' p mb x g N P K q vo vw n O Ws :=
  ⟨⟨h.pr, h.eq, h.ts.bk, fun k hk e => h.dj k e (.inr hk), h.ts.cnt⟩, h.ts.pr, h.ts.eq, fun k hk e => by
    rcases e with e | e
    · exact h.dj k e (.inl hk)
    · exact h.ts.dj k e hk, fun k hk => by
    rcases hk with (e | e) | e
    · exact h.lo k (.inr e)
    · exact h.lo k (.inl (.inr e))
    · exact h.lo k (.inl (.inl e))⟩
theorem TT.below (h : TT A w p mb x g N P K p' mb' x' g' N' P' K' q vo vw n O Ws) (hb : Below w.heap.size w w') : TT A w' p mb x g N P K p' mb' x' g' N' P' K' q vo vw n O Ws :=
  ⟨h.ts.below hb (h.ts.pr.below hb), h.pr.below hb, h.eq, h.dj, h.lo⟩
theorem TT.step (h : TT A w p mb x g N P K p' mb' x' g' N' P' K' q vo vw n O Ws) (hA : ∀ k, w.heap.size ≤ k → A k) (t : TI w p mb x g N P K q vo vw O Ws w') :
    ∃ P1 K1 vo1 vw1 n1 O1 W1, TT A w' p mb x g N P1 K1 p' mb' x' g' N' P' K' q vo1 vw1 n1 O1 W1 ∧ Grown w w' (fun k => A k ∧ TU p mb x g P K q vo vw O Ws k) := by
  obtain ⟨P1, K1, vo1, vw1, n1, O1, W1, a1, a2, a3⟩ := t
  refine ⟨P1, K1, vo1, vw1, n1, O1, W1, ⟨a1, h.pr.grown a2 fun k e e2 => h.dj k e2 e, h.eq, fun k hk e => ?_, fun k hk => ?_⟩, a2.mono fun k _ e => ⟨h.lo k (.inl e), e⟩⟩
  · rcases a3 k e with e2 | e2
    · exact h.dj k hk e2
    · have := h.pr.lt k hk; omega
  · rcases hk with e | e
    · rcases a3 k e with e2 | e2
      · exact h.lo k (.inl e2)
      · exact hA k e2
    · exact h.lo k (.inr e)
end

end Go.Proofs.YteecdcocgflklaaDoor
