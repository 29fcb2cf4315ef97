import Derived.Test.YtbkboebinhafhaaOpG
namespace Go.Proofs.Ytbkboebinhafhaa
open Go.RowKit
set_option linter.unusedSimpArgs false

theorem fm_next {α β : Type} (f : α → List β) (l : List α) (t : Nat) (ht : t < l.length) (d : α) : (l.take (t + 1)).flatMap f = (l.take t).flatMap f ++ f (l.getD t d) := by
  rw [List.take_succ_eq_append_getElem ht, List.flatMap_append]
  simp [List.getD_eq_getElem?_getD, ht]
theorem fm_len {α β : Type} (f : α → List β) (l : List α) (t : Nat) : ((l.take t).flatMap f).length ≤ (l.flatMap f).length := by
  conv => rhs; rw [← List.take_append_drop t l, List.flatMap_append, List.length_append]
  omega
theorem chkF_ok : ∀ (r a : List OpV), (chkF a r).1 = 0 → ∀ i x, r[i]? = some x → wrongV (a ++ r.take i) x = 0
  | [], _, _, i, x, hx => by simp at hx
  | y :: r, a, h, i, x, hx => by
    rw [chkF] at h
    by_cases hw : wrongV a y = 0
    · rw [if_pos hw] at h
      cases i with
      | zero => simp at hx; subst hx; simpa using hw
      | succ i =>
        have := chkF_ok r (a ++ [y]) h i x (by simpa using hx)
        simpa [List.append_assoc] using this
    · rw [if_neg hw] at h
      exact absurd h hw
theorem chk_ok {l : List OpV} (h : (chk l).1 = 0) : l.length ≤ 1024 ∧ ∀ i x, l[i]? = some x → wrongV (l.take i) x = 0 := by
  unfold chk at h
  by_cases hl : 1024 < l.length
  · rw [if_pos hl] at h; simp at h
  · rw [if_neg hl] at h
    exact ⟨by omega, fun i x hx => by simpa using chkF_ok l [] h i x hx⟩
theorem wrongV_ok {a : List OpV} {x : OpV} (h : wrongV a x = 0) : hasI x.kind ≠ [] ∧ x.key.size ≤ 65536 ∧ x.text.size ≤ 65536 ∧ sm (wipes (hasI x.kind) { x with kind := 0 }) zeroOp = true ∧ (cellV x.kind = 4 → mayAt a x = true) := by
  unfold wrongV at h
  by_cases h1 : hasI x.kind = []
  · rw [if_pos h1] at h; simp at h
  rw [if_neg h1] at h
  by_cases h2 : 65536 < x.key.size
  · rw [if_pos h2] at h; simp at h
  rw [if_neg h2] at h
  by_cases h3 : 65536 < x.text.size
  · rw [if_pos h3] at h; simp at h
  rw [if_neg h3] at h
  cases h4 : sm (wipes (hasI x.kind) { x with kind := 0 }) zeroOp with
  | false => rw [if_pos h4] at h; simp at h
  | true =>
    rw [if_neg (by rw [h4]; decide)] at h
    refine ⟨h1, by omega, by omega, rfl, fun h5 => ?_⟩
    rw [if_pos h5] at h
    cases h6 : mayAt a x with
    | true => rfl
    | false => rw [h6] at h; simp at h
theorem mayAt_op {a : List OpV} {x : OpV} (ha : a.length ≤ 1024) (h : mayAt a x = true) : 0 ≤ x.op ∧ x.op ≤ 1024 := by
  unfold mayAt at h
  by_cases h1 : (nd x.node z32 && x.op == 0) = true
  · simp at h1; omega
  rw [if_neg h1] at h
  by_cases h2 : nd x.node z32 = false
  · rw [if_pos h2] at h; simp at h; omega
  rw [if_neg h2] at h
  by_cases h3 : x.op < 1 ∨ (a.length : Int) < x.op
  · rw [if_pos h3] at h; simp at h
  · omega
theorem hasI_mem {k : Int} (h : hasI k ≠ []) : k ∈ ([1, 2, 3, 4, 5, 6, 7, 8, 9] : List Int) := by
  by_cases hk : k ∈ ([1, 2, 3, 4, 5, 6, 7, 8, 9] : List Int)
  · exact hk
  · exact absurd (hasI_none k hk) h
theorem hasI_rng {k : Int} (h : hasI k ≠ []) : 1 ≤ k ∧ k ≤ 9 := by
  have := hasI_mem h
  simp only [List.mem_cons, List.not_mem_nil, or_false] at this
  omega
theorem hasI_three {k : Int} (h : 3 ∈ hasI k) : cellV k = 4 := by
  have h1 : hasI k ≠ [] := fun e => by rw [e] at h; simp at h
  have := hasI_mem h1
  simp only [List.mem_cons, List.not_mem_nil, or_false] at this
  rcases this with rfl | rfl | rfl | rfl | rfl | rfl | rfl | rfl | rfl <;> first | (exact absurd h (by decide)) | rfl
theorem Moved.mono {a b : World} {v v' : Value} (h : Moved b v v') (hs : a.heap.size ≤ b.heap.size) : Moved a v v' := (Moved.refl a v).trans hs h
set_option maxRecDepth 8000 in
set_option maxHeartbeats 2000000 in
theorem put_any (p : Nat) (v : Value) (L0 : List Int) (vl : Value) (l : List OpV) (w : World) (h : OutAt w p v L0) (hl : OpsAt w vl l) (hok : ∀ x ∈ l, OpOk x) (hb : l.length ≤ 4398046511104)
    (hsep : ∀ k, vl.ownBlock = some k → ¬ OF p v k) (hbb : (chk l).1 = 0 → L0.length + (formL l).length ≤ 200000000000000) :
    Calls Try.prog 18 #[ptr p, vl] w fun e w' => e = .returned (.int .i64 (chk l).1) ∧ ∃ v', OutAt w' p v' (if (chk l).1 = 0 then L0 ++ formL l else L0) ∧ Moved w v v' ∧ Grown w w' (OF p v) := by
  obtain ⟨va, vc, rfl⟩ := hl.form
  have HO := Keep.mk h
  have HL := Keep.mk hl
  have Hok := Keep.mk hok
  have Hlb := Keep.mk hb
  have Hsep := Keep.mk hsep
  have hb' : (l.length : Int) ≤ 9223372036854775807 := by omega
  have hwl : IntKind.u64.wrap (l.length : Int) = (l.length : Int) := by rw [IntKind.wrap_u64]; omega
  go_enter Try.func18, Try.ntmps18
  by_cases hC : (chk l).1 = 0
  · have Hbb := Keep.mk (hbb hC)
    have Hok2 := Keep.mk (chk_ok hC)
    have HC0 := Keep.mk hC
    clear h hl hok hb hsep hbb
    refine wp_seq_k fun K1 hK1 => ?_
    refine wp_region_list (WL.out ?_)
    refine WL.val (by kernel_rfl) (.int .i64 0) (by go_simp) ?_
    simp only [Act.put, List.setIfInBounds_toArray, List.set_cons_zero, List.set_cons_succ]
    refine WL.nil ?_
    refine hK1 _ _ ?_
    refine wp_seq_k fun K2 hK2 => ?_
    refine wp_seq_k fun K3 hK3 => ?_
    refine wp_region_list (WL.out ?_)
    refine WL.val (by kernel_rfl) (.slice va l.length vc) (by go_simp) ?_
    simp only [Act.put, List.setIfInBounds_toArray, List.set_cons_zero, List.set_cons_succ]
    refine WL.callF (by kernel_rfl) 10 _ _ rfl Try.in10 #[.slice va l.length vc] (by simp [Act.eval]) ?_
    refine (check_any _ l w HL.out Hok.out Hlb.out).mono ?_
    rintro e w1 ⟨rfl, h1⟩
    refine ⟨_, rfl, ?_⟩
    have HB1 := Keep.mk h1
    clear h1
    simp only [Act.put, List.setIfInBounds_toArray, List.set_cons_zero, List.set_cons_succ]
    refine WL.val (by kernel_rfl) (.tuple #[.int .i64 (chk l).1, .int .i64 ((chk l).2 : Int)]) (by go_simp) ?_
    simp only [Act.put, List.setIfInBounds_toArray, List.set_cons_zero, List.set_cons_succ]
    refine WL.val (by kernel_rfl) (.int .i64 (chk l).1) (by go_simp) ?_
    simp only [Act.put, List.setIfInBounds_toArray, List.set_cons_zero, List.set_cons_succ]
    refine WL.val (by kernel_rfl) (.int .i64 ((chk l).2 : Int)) (by go_simp) ?_
    simp only [Act.put, List.setIfInBounds_toArray, List.set_cons_zero, List.set_cons_succ]
    refine WL.val (by kernel_rfl) (.int .i64 (chk l).1) (by go_simp) ?_
    simp only [Act.put, List.setIfInBounds_toArray, List.set_cons_zero, List.set_cons_succ]
    refine WL.val (by kernel_rfl) (.int .i64 ((chk l).2 : Int)) (by go_simp) ?_
    simp only [Act.put, List.setIfInBounds_toArray, List.set_cons_zero, List.set_cons_succ]
    refine WL.nil ?_
    refine hK3 _ _ ?_
    refine wp_seq_k fun K4 hK4 => ?_
    refine wp_region_list (WL.out ?_)
    refine WL.val (by kernel_rfl) (.int .i64 (chk l).1) (by go_simp) ?_
    simp only [Act.put, List.setIfInBounds_toArray, List.set_cons_zero, List.set_cons_succ]
    refine WL.val (by kernel_rfl) (.bool false) (by go_simp) ?_
    simp only [Act.put, List.setIfInBounds_toArray, List.set_cons_zero, List.set_cons_succ]
    refine WL.nil ?_
    refine hK4 _ _ ?_
    refine wp_cond_false rfl ?_
    refine wp_skip ?_
    refine hK2 _ _ ?_
    refine wp_seq_k fun K5 hK5 => ?_
    refine wp_region_list (WL.out ?_)
    refine WL.callF (by kernel_rfl) 34 _ _ rfl Try.in34 #[] (by simp) ?_
    refine (tab_any w1).mono ?_
    rintro e w2 ⟨m, rfl, hT2, hm2, hB2⟩
    refine ⟨_, rfl, ?_⟩
    have HB2 := Keep.mk (HB1.out.trans (hB2.mono HB1.out.size))
    have HT2 := Keep.mk hT2
    have HO2 := Keep.mk (HO.out.below HB2.out)
    clear hT2 hm2 hB2
    simp only [Act.put, List.setIfInBounds_toArray, List.set_cons_zero, List.set_cons_succ]
    refine WL.val (by kernel_rfl) (.map (some m)) (by go_simp) ?_
    simp only [Act.put, List.setIfInBounds_toArray, List.set_cons_zero, List.set_cons_succ]
    refine WL.nil ?_
    refine hK5 _ _ ?_
    refine wp_seq_k fun K6 hK6 => ?_
    refine wp_region_list (WL.out ?_)
    refine WL.val (by kernel_rfl) (.pointer (some ⟨p, 0, none⟩)) (by go_simp) ?_
    simp only [Act.put, List.setIfInBounds_toArray, List.set_cons_zero, List.set_cons_succ]
    refine WL.val (by kernel_rfl) (.slice va l.length vc) (by go_simp) ?_
    simp only [Act.put, List.setIfInBounds_toArray, List.set_cons_zero, List.set_cons_succ]
    refine WL.val (by kernel_rfl) (.int .i64 (l.length : Int)) (by go_simp) ?_
    simp only [Act.put, List.setIfInBounds_toArray, List.set_cons_zero, List.set_cons_succ]
    refine WL.val (by kernel_rfl) (.int .u64 (l.length : Int)) (by go_simp) ?_
    simp only [Act.put, List.setIfInBounds_toArray, List.set_cons_zero, List.set_cons_succ]
    refine WL.callF (by kernel_rfl) 37 _ _ rfl Try.in37 #[ptr p, .int .u64 (l.length : Int)] (by simp [Act.eval]) ?_
    refine (onum_any p v L0 l.length w2 HO2.out (by have := Hlb.out; omega) (by have := Hbb.out; unfold formL at this; rw [List.length_append] at this ⊢; omega)).mono ?_
    rintro e w4 hp
    obtain ⟨rfl, v4, hO4, hM4, hG4⟩ := hp
    refine ⟨_, rfl, ?_⟩
    have H4O := Keep.mk hO4
    have H4M : Keep (Moved w v v4) := ⟨hM4.mono HB2.out.size⟩
    have H4G : Keep (Grown w w4 (OF p v)) := ⟨(Grown.below HB2.out).trans hG4⟩
    have H4T := Keep.mk (HO2.out.tab HT2.out hG4)
    clear hO4 hM4 hG4
    simp only [Act.put, List.setIfInBounds_toArray, List.set_cons_zero, List.set_cons_succ]
    refine WL.nil ?_
    refine hK6 _ _ ?_
    refine wp_seq_k fun K7 hK7 => ?_
    refine wp_seq_k fun K8 hK8 => ?_
    refine wp_region_list (WL.out ?_)
    refine WL.val (by kernel_rfl) (.slice va l.length vc) (by go_simp) ?_
    simp only [Act.put, List.setIfInBounds_toArray, List.set_cons_zero, List.set_cons_succ]
    refine WL.val (by kernel_rfl) (.int .i64 (l.length : Int)) (by go_simp) ?_
    simp only [Act.put, List.setIfInBounds_toArray, List.set_cons_zero, List.set_cons_succ]
    refine WL.val (by kernel_rfl) (.int .i64 0) (by go_simp) ?_
    simp only [Act.put, List.setIfInBounds_toArray, List.set_cons_zero, List.set_cons_succ]
    refine WL.nil ?_
    refine hK8 _ _ ?_
    refine wp_block ?_
    refine wp_loop (fun a wr => ∃ (t : Nat) (u9 u11 u29 u30 u31 u32 u33 u34 u35 u36 u37 u38 u39 u40 u41 u42 u43 u44 u45 u46 u47 u48 u49 u50 u51 u52 : Value), a = { tmps := #[.pointer (some ⟨p, 0, none⟩), .slice va l.length vc, undef, undef, .int .i64 0, .int .i64 (chk l).1, .int .i64 ((chk l).2 : Int), .map (some m), undef, u9, undef, u11, .tuple #[.int .i64 (chk l).1, .int .i64 ((chk l).2 : Int)], .slice va l.length vc, .tuple #[.int .i64 (chk l).1, .int .i64 ((chk l).2 : Int)], .int .i64 (chk l).1, .int .i64 ((chk l).2 : Int), .int .i64 (chk l).1, .bool false, undef, .map (some m), .pointer (some ⟨p, 0, none⟩), .slice va l.length vc, .int .i64 (l.length : Int), .int .u64 (l.length : Int), .tuple #[], .slice va l.length vc, .int .i64 (l.length : Int), .int .i64 (t : Int), u29, u30, u31, u32, u33, u34, u35, u36, u37, u38, u39, u40, u41, u42, u43, u44, u45, u46, u47, u48, u49, u50, u51, u52], defers := [] } ∧ t ≤ l.length ∧ ∃ vo, OutAt wr p vo (L0 ++ numL l.length ++ (l.take t).flatMap oneF) ∧ Moved w v vo ∧ Grown w wr (OF p v) ∧ TabAt wr m) (fun a _ => l.length - (intOf (a.tmps.getD 28 undef)).toNat) ⟨0, undef, undef, undef, undef, undef, undef, undef, undef, undef, undef, undef, undef, undef, undef, undef, undef, undef, undef, undef, undef, undef, undef, undef, undef, undef, undef, rfl, by omega, v4, by rw [List.take_zero, List.flatMap_nil, List.append_nil]; exact H4O.out, H4M.out, H4G.out, H4T.out⟩ ?_
    rintro a wr ⟨t, u9, u11, u29, u30, u31, u32, u33, u34, u35, u36, u37, u38, u39, u40, u41, u42, u43, u44, u45, u46, u47, u48, u49, u50, u51, u52, rfl, ht, vo, hO, hM, hG, hT⟩
    by_cases htl : t < l.length
    · have htl' : (t : Int) < (l.length : Int) := by omega
      have hLr := HL.out.grown hG (fun b hb _ => Hsep.out b hb)
      obtain ⟨gL, ofL, hva, hr⟩ := hLr.at htl
      have hgx : l[t]? = some (l.getD t zeroOp) := by simp [List.getD_eq_getElem?_getD, htl]
      have hwx := wrongV_ok (Hok2.out.2 t _ hgx)
      have hmem : l.getD t zeroOp ∈ l := List.mem_of_getElem? hgx
      have Hx := Keep.mk (Hok.out _ hmem)
      have hnx := fm_next oneF l t htl zeroOp
      have hln := fm_len oneF l (t + 1)
      generalize l.getD t zeroOp = x at *
      have hkr := hasI_rng hwx.1
      have hwk : IntKind.u8.wrap x.kind = x.kind := by rw [IntKind.wrap_u8]; omega
      have H3 : Keep (3 ∈ hasI x.kind → 0 ≤ x.op ∧ x.op ≤ 1024) := ⟨fun h3 => mayAt_op (by rw [List.length_take]; have := Hok2.out.1; omega) (hwx.2.2.2.2 (hasI_three h3))⟩
      have Hi4 := Keep.mk (hasI_lt x.kind)
      have Hn3 := Keep.mk (hasI_len x.kind)
      obtain ⟨is, his⟩ : ∃ is, is = hasI x.kind := ⟨_, rfl⟩
      obtain ⟨L1, hL1⟩ : ∃ L1, L1 = L0 ++ numL l.length ++ (l.take t).flatMap oneF ++ [x.kind] := ⟨_, rfl⟩
      have hone : oneF x = x.kind :: is.flatMap fun i => putF i x := by rw [his]; rfl
      have hfull : L1 ++ (is.flatMap fun i => putF i x) = L0 ++ numL l.length ++ (l.take (t + 1)).flatMap oneF := by rw [hnx, hone, hL1]; simp
      have Hbd : Keep ((L1 ++ is.flatMap fun i => putF i x).length ≤ 200000000000000) := ⟨by
        rw [hfull, List.length_append, List.length_append]
        have := Hbb.out
        unfold formL at this
        rw [List.length_append] at this
        omega⟩
      have Hb1 : Keep ((L0 ++ numL l.length ++ (l.take t).flatMap oneF ++ [x.kind]).length ≤ 200000000000000) := ⟨by rw [← hL1]; have := Hbd.out; rw [List.length_append] at this; omega⟩
      have hwr1 : IntKind.i64.wrap ((t : Int) + 1) = (t : Int) + 1 := by rw [IntKind.wrap_i64]; have := Hlb.out; omega
      rw [← his] at H3 Hi4 Hn3
      have hkx1 := hkr.1
      have hkx2 := hkr.2
      have JO := Keep.mk hO
      have JM := Keep.mk hM
      have JG := Keep.mk hG
      have JT := Keep.mk hT
      have Jfull := Keep.mk hfull
      have Jis := Keep.mk his
      have JL1 := Keep.mk hL1
      clear hO hM hG hT hLr hnx hln hone hfull hwx hkr his hL1 hmem hgx
      refine wp_seq_k fun K9 hK9 => ?_
      refine wp_region_list (WL.out ?_)
      refine WL.val (by kernel_rfl) (.bool true) (by go_simp) ?_
      simp only [Act.put, List.setIfInBounds_toArray, List.set_cons_zero, List.set_cons_succ]
      refine WL.nil ?_
      refine hK9 _ _ ?_
      refine wp_seq_k fun K10 hK10 => ?_
      refine wp_cond_true rfl ?_
      refine wp_skip ?_
      refine hK10 _ _ ?_
      refine wp_seq_k fun K11 hK11 => ?_
      refine wp_block ?_
      refine wp_seq_k fun K12 hK12 => ?_
      refine wp_region_list (WL.out ?_)
      refine WL.val (by kernel_rfl) (.pointer (some ⟨gL, ofL + t * 37, none⟩)) (by go_simp) ?_
      simp only [Act.put, List.setIfInBounds_toArray, List.set_cons_zero, List.set_cons_succ]
      refine WL.mid (by kernel_rfl) 33 (.tmp 30) rfl gL (ofL + t * 37) rfl (opL x) _ hr Try.underlying33 rfl (Try.size33L x) ?_
      rw [rng_load]
      simp only [Act.put, List.setIfInBounds_toArray, List.set_cons_zero, List.set_cons_succ]
      refine WL.new (by kernel_rfl) 33 rfl _ Try.new33 ?_
      simp only [Act.put, List.setIfInBounds_toArray, List.set_cons_zero, List.set_cons_succ]
      refine WL.storeR (by kernel_rfl) 33 (.tmp 9) (.tmp 31) rfl wr.heap.size (opA x) rfl rfl 33 (opA zeroOp) (Blk.new wr 33 _) (Try.size33B x) (opA_sizes _ _) (opA_one x) ?_
      have HX := Keep.mk ((Blk.new wr 33 (opA zeroOp)).setRow (opA x))
      have HGr : Keep (Below wr.heap.size wr ((wr.alloc (.cells (opA zeroOp) 33)).setRow wr.heap.size (opA x))) := ⟨below_setRow (below_new wr _) (Nat.le_refl _) _⟩
      generalize (wr.alloc (.cells (opA zeroOp) 33)).setRow wr.heap.size (opA x) = wq at *
      obtain ⟨gx, hgx⟩ : ∃ gx, Keep (gx = wr.heap.size) := ⟨_, ⟨rfl⟩⟩
      rw [← hgx.out] at HX ⊢
      have k0 := HX.out.c 0 (opA_0 x)
      have HOq := Keep.mk (JO.out.below HGr.out)
      have HTq := Keep.mk (JT.out.below HGr.out)
      simp only [Act.put]
      refine WL.nil ?_
      refine hK12 _ _ ?_
      refine wp_seq_k fun K13 hK13 => ?_
      refine wp_region_list (WL.out ?_)
      refine WL.val (by kernel_rfl) (.pointer (some ⟨p, 0, none⟩)) (by go_simp) ?_
      simp only [Act.put, List.setIfInBounds_toArray, List.set_cons_zero, List.set_cons_succ]
      refine WL.val (by kernel_rfl) (.pointer (some ⟨gx, 0, none⟩)) (by go_simp) ?_
      simp only [Act.put, List.setIfInBounds_toArray, List.set_cons_zero, List.set_cons_succ]
      refine WL.val (by kernel_rfl) (.int .i64 x.kind) (by go_simp) ?_
      simp only [Act.put, List.setIfInBounds_toArray, List.set_cons_zero, List.set_cons_succ]
      refine WL.val (by kernel_rfl) (.int .u8 x.kind) (by go_simp) ?_
      simp only [Act.put, List.setIfInBounds_toArray, List.set_cons_zero, List.set_cons_succ]
      refine WL.callF (by kernel_rfl) 21 _ _ rfl Try.in21 #[ptr p, .int .u8 x.kind] (by simp [Act.eval]) ?_
      refine (obyte_any p vo _ x.kind wq HOq.out Hb1.out).mono ?_
      rintro e w6 hp
      obtain ⟨rfl, vo6, hO6, hM6, hG6⟩ := hp
      refine ⟨_, rfl, ?_⟩
      rw [← JL1.out] at hO6
      have HGs : Keep (Grown wr w6 (OF p vo)) := ⟨(Grown.below HGr.out).trans hG6⟩
      have H6O := Keep.mk hO6
      have H6M : Keep (Moved w v vo6) := ⟨JM.out.trans JG.out.size (hM6.mono HGr.out.size)⟩
      have H6G : Keep (Grown w w6 (OF p v)) := ⟨JG.out.next HGs.out fun k hk ho => by
        rcases ho with rfl | ho
        · exact .inl rfl
        · exact .inr (JM.out.old hk ho)⟩
      have H6T := Keep.mk (JO.out.tab JT.out HGs.out)
      have H6X := Keep.mk (HOq.out.keeps HX.out (by decide) (by decide) hG6)
      obtain ⟨vF, hvF, hlk⟩ := H6T.out.look2 x.kind
      rw [← Jis.out] at hvF
      obtain ⟨fa, fc, rfl⟩ := hvF.form
      have H6F := Keep.mk hvF
      have hlk1 := (hlk w6 (Below.refl _ _)).1
      have k6 := H6X.out.c 0 (opA_0 x)
      clear hO6 hM6 hG6 hvF hlk k0
      simp only [Act.put, List.setIfInBounds_toArray, List.set_cons_zero, List.set_cons_succ]
      refine WL.nil ?_
      refine hK13 _ _ ?_
      refine wp_seq_k fun K14 hK14 => ?_
      refine wp_region_list (WL.out ?_)
      refine WL.val (by kernel_rfl) (.map (some m)) (by go_simp) ?_
      simp only [Act.put, List.setIfInBounds_toArray, List.set_cons_zero, List.set_cons_succ]
      refine WL.val (by kernel_rfl) (.pointer (some ⟨gx, 0, none⟩)) (by go_simp) ?_
      simp only [Act.put, List.setIfInBounds_toArray, List.set_cons_zero, List.set_cons_succ]
      refine WL.val (by kernel_rfl) (.int .i64 x.kind) (by go_simp) ?_
      simp only [Act.put, List.setIfInBounds_toArray, List.set_cons_zero, List.set_cons_succ]
      refine WL.val (by kernel_rfl) (.slice fa is.length fc) (by go_simp) ?_
      simp only [Act.put, List.setIfInBounds_toArray, List.set_cons_zero, List.set_cons_succ]
      refine WL.val (by kernel_rfl) (.int .i64 (is.length : Int)) (by go_simp) ?_
      simp only [Act.put, List.setIfInBounds_toArray, List.set_cons_zero, List.set_cons_succ]
      refine WL.val (by kernel_rfl) (.int .i64 0) (by go_simp) ?_
      simp only [Act.put, List.setIfInBounds_toArray, List.set_cons_zero, List.set_cons_succ]
      refine WL.nil ?_
      refine hK14 _ _ ?_
      refine wp_block ?_
      refine wp_loop (fun a ws => ∃ (t2 : Nat) (u11 u43 u44 u45 u46 u47 u48 u49 u50 u51 : Value), a = { tmps := #[.pointer (some ⟨p, 0, none⟩), .slice va l.length vc, undef, undef, .int .i64 0, .int .i64 (chk l).1, .int .i64 ((chk l).2 : Int), .map (some m), undef, .pointer (some ⟨gx, 0, none⟩), undef, u11, .tuple #[.int .i64 (chk l).1, .int .i64 ((chk l).2 : Int)], .slice va l.length vc, .tuple #[.int .i64 (chk l).1, .int .i64 ((chk l).2 : Int)], .int .i64 (chk l).1, .int .i64 ((chk l).2 : Int), .int .i64 (chk l).1, .bool false, undef, .map (some m), .pointer (some ⟨p, 0, none⟩), .slice va l.length vc, .int .i64 (l.length : Int), .int .u64 (l.length : Int), .tuple #[], .slice va l.length vc, .int .i64 (l.length : Int), .int .i64 (t : Int), .bool true, .pointer (some ⟨gL, ofL + t * 37, none⟩), .agg (opA x), .pointer (some ⟨p, 0, none⟩), .pointer (some ⟨gx, 0, none⟩), .int .i64 x.kind, .int .u8 x.kind, .tuple #[], .map (some m), .pointer (some ⟨gx, 0, none⟩), .int .i64 x.kind, .slice fa is.length fc, .int .i64 (is.length : Int), .int .i64 (t2 : Int), u43, u44, u45, u46, u47, u48, u49, u50, u51, u52], defers := [] } ∧ t2 ≤ is.length ∧ ∃ vi, OutAt ws p vi (L1 ++ (is.take t2).flatMap fun i => putF i x) ∧ Moved w v vi ∧ Grown w ws (OF p v) ∧ TabAt ws m ∧ FieldsAt ws (.slice fa is.length fc) is ∧ Blk ws gx 33 (opA x)) (fun a _ => is.length - (intOf (a.tmps.getD 42 undef)).toNat) ⟨0, u11, u43, u44, u45, u46, u47, u48, u49, u50, u51, rfl, by omega, vo6, by rw [List.take_zero, List.flatMap_nil, List.append_nil]; exact H6O.out, H6M.out, H6G.out, H6T.out, H6F.out, H6X.out⟩ ?_
      rintro a ws ⟨t2, u11, u43, u44, u45, u46, u47, u48, u49, u50, u51, rfl, ht2, vi, hO2, hM2, hG2, hT2, hF2, hX2⟩
      by_cases htl2 : t2 < is.length
      · have htl2' : (t2 : Int) < (is.length : Int) := by omega
        obtain ⟨gF, hfa, hr2⟩ := hF2.at htl2
        have him : is.getD t2 0 ∈ is := by simp [List.getD_eq_getElem?_getD, htl2]
        have hi4 : is.getD t2 0 < 4 := Hi4.out _ him
        have hi3 : is.getD t2 0 = 3 → 0 ≤ x.op ∧ x.op ≤ 1024 := fun e => H3.out (e ▸ him)
        have hnx2 := fm_next (fun i => putF i x) is t2 htl2 0
        have hbd : (L1 ++ (is.take t2).flatMap fun i => putF i x).length + (putF (is.getD t2 0) x).length ≤ 200000000000000 := by
          have h1 := fm_len (fun i => putF i x) is (t2 + 1)
          rw [hnx2, List.length_append] at h1
          have h2 := Hbd.out
          rw [List.length_append] at h2 ⊢
          omega
        generalize is.getD t2 0 = i at *
        obtain ⟨L2, hL2⟩ : ∃ L2, L2 = L1 ++ (is.take t2).flatMap fun i => putF i x := ⟨_, rfl⟩
        rw [← hL2] at hO2 hbd
        have hwr2 : IntKind.i64.wrap ((t2 : Int) + 1) = (t2 : Int) + 1 := by rw [IntKind.wrap_i64]; have := Hn3.out; omega
        have KO2 := Keep.mk hO2
        have KM2 := Keep.mk hM2
        have KG2 := Keep.mk hG2
        have KT2 := Keep.mk hT2
        have KF2 := Keep.mk hF2
        have KX2 := Keep.mk hX2
        have Kbd := Keep.mk hbd
        have Ki3 := Keep.mk hi3
        have Knx2 := Keep.mk hnx2
        have KL2 := Keep.mk hL2
        clear hO2 hM2 hG2 hT2 hF2 hX2 hbd hi3 hnx2 hL2 him
        rcases (show i = 0 ∨ i = 1 ∨ i = 2 ∨ i = 3 by omega) with rfl | rfl | rfl | rfl
        · refine wp_seq_k fun K15 hK15 => ?_
          refine wp_region_list (WL.out ?_)
          refine WL.val (by kernel_rfl) (.bool true) (by go_simp) ?_
          simp only [Act.put, List.setIfInBounds_toArray, List.set_cons_zero, List.set_cons_succ]
          refine WL.nil ?_
          refine hK15 _ _ ?_
          refine wp_seq_k fun K16 hK16 => ?_
          refine wp_cond_true rfl ?_
          refine wp_skip ?_
          refine hK16 _ _ ?_
          refine wp_seq_k fun K17 hK17 => ?_
          refine wp_block ?_
          refine wp_seq_k fun K18 hK18 => ?_
          refine wp_region_list (WL.out ?_)
          refine WL.val (by kernel_rfl) (.pointer (some ⟨gF, 0 + t2 * 3, none⟩)) (by go_simp) ?_
          simp only [Act.put, List.setIfInBounds_toArray, List.set_cons_zero, List.set_cons_succ]
          refine WL.midA (by kernel_rfl) 82 (.tmp 44) rfl gF (0 + t2 * 3) rfl (fldA 0) _ hr2 Try.underlying82 rfl (Try.size82B 0) ?_
          simp only [Act.put, List.setIfInBounds_toArray, List.set_cons_zero, List.set_cons_succ]
          refine WL.new (by kernel_rfl) 82 rfl _ Try.new82 ?_
          simp only [Act.put, List.setIfInBounds_toArray, List.set_cons_zero, List.set_cons_succ]
          refine WL.storeR (by kernel_rfl) 82 (.tmp 11) (.tmp 45) rfl ws.heap.size (fldA 0) rfl rfl 82 noF (Blk.new ws 82 noF) (Try.size82B 0) (noF_sizes 0) (fldA_one 0) ?_
          have HN := Keep.mk ((Blk.new ws 82 noF).setRow (fldA 0))
          have HGq : Keep (Below ws.heap.size ws ((ws.alloc (.cells noF 82)).setRow ws.heap.size (fldA 0))) := ⟨below_setRow (below_new ws _) (Nat.le_refl _) _⟩
          generalize (ws.alloc (.cells noF 82)).setRow ws.heap.size (fldA 0) = wy at *
          have cf : wy.cell? ⟨ws.heap.size, 1, none⟩ = some (fnv 66) := HN.out.c 1 rfl
          unfold fnv at cf
          have HOy := Keep.mk (KO2.out.below HGq.out)
          have HXy := Keep.mk (KX2.out.below HGq.out KX2.out.lt)
          simp only [Act.put]
          refine WL.nil ?_
          refine hK18 _ _ ?_
          refine wp_region_list (WL.out ?_)
          refine WL.val (by kernel_rfl) (.pointer (some ⟨ws.heap.size, 1, none⟩)) (by go_simp) ?_
          simp only [Act.put, List.setIfInBounds_toArray, List.set_cons_zero, List.set_cons_succ]
          refine WL.val (by kernel_rfl) (.func (.func 66) #[] #[]) (by go_simp) ?_
          simp only [Act.put, List.setIfInBounds_toArray, List.set_cons_zero, List.set_cons_succ]
          refine WL.val (by kernel_rfl) (.pointer (some ⟨p, 0, none⟩)) (by go_simp) ?_
          simp only [Act.put, List.setIfInBounds_toArray, List.set_cons_zero, List.set_cons_succ]
          refine WL.row (by kernel_rfl) 33 (.tmp 9) rfl gx rfl 33 (opA x) _ HXy.out Try.underlying33 rfl (Try.size33B x) ?_
          simp only [Act.put, List.setIfInBounds_toArray, List.set_cons_zero, List.set_cons_succ]
          refine WL.callV (by kernel_rfl) 66 (.tmp 47) _ _ rfl rfl Try.in66 #[ptr p, .agg (opA x)] (by simp [Act.eval]) ?_
          refine (put0_any p vi L2 x wy HOy.out Hx.out Kbd.out).mono ?_
          rintro e w9 hp
          obtain ⟨rfl, v9, hO9, hM9, hG9⟩ := hp
          refine ⟨_, rfl, ?_⟩
          have HGs : Keep (Grown ws w9 (OF p vi)) := ⟨(Grown.below HGq.out).trans hG9⟩
          have HM9 := Keep.mk hM9
          have HO9 := Keep.mk hO9
          clear hG9 hM9 hO9 cf
          simp only [Act.put, List.setIfInBounds_toArray, List.set_cons_zero, List.set_cons_succ]
          refine WL.nil ?_
          refine hK17 _ _ ?_
          refine wp_region_list (WL.out ?_)
          refine WL.val (by kernel_rfl) (.int .i64 ((t2 : Int) + 1)) (by go_simp) ?_
          simp only [Act.put, List.setIfInBounds_toArray, List.set_cons_zero, List.set_cons_succ]
          refine WL.val (by kernel_rfl) (.int .i64 ((t2 : Int) + 1)) (by go_simp) ?_
          simp only [Act.put, List.setIfInBounds_toArray, List.set_cons_zero, List.set_cons_succ]
          refine WL.nil ?_
          refine ⟨⟨t2 + 1, .pointer (some ⟨ws.heap.size, 0, none⟩), .bool true, .pointer (some ⟨gF, 0 + t2 * 3, none⟩), .agg (fldA 0), .pointer (some ⟨ws.heap.size, 1, none⟩), .func (.func 66) #[] #[], .pointer (some ⟨p, 0, none⟩), .agg (opA x), .tuple #[], .int .i64 ((t2 : Int) + 1), rfl, by omega, v9, by rw [Knx2.out, ← List.append_assoc, ← KL2.out]; exact HO9.out, KM2.out.trans KG2.out.size (HM9.out.mono HGq.out.size), KG2.out.next HGs.out fun k hk ho => ?_, KO2.out.tab KT2.out HGs.out, KO2.out.fields KF2.out HGs.out, KO2.out.keeps KX2.out (by decide) (by decide) HGs.out⟩, ?_⟩
          · rcases ho with rfl | ho
            · exact .inl rfl
            · exact .inr (KM2.out.old hk ho)
          · simp only [intOf]; show is.length - ((t2 : Int) + 1).toNat < is.length - ((t2 : Int)).toNat; omega
        · refine wp_seq_k fun K19 hK19 => ?_
          refine wp_region_list (WL.out ?_)
          refine WL.val (by kernel_rfl) (.bool true) (by go_simp) ?_
          simp only [Act.put, List.setIfInBounds_toArray, List.set_cons_zero, List.set_cons_succ]
          refine WL.nil ?_
          refine hK19 _ _ ?_
          refine wp_seq_k fun K20 hK20 => ?_
          refine wp_cond_true rfl ?_
          refine wp_skip ?_
          refine hK20 _ _ ?_
          refine wp_seq_k fun K21 hK21 => ?_
          refine wp_block ?_
          refine wp_seq_k fun K22 hK22 => ?_
          refine wp_region_list (WL.out ?_)
          refine WL.val (by kernel_rfl) (.pointer (some ⟨gF, 0 + t2 * 3, none⟩)) (by go_simp) ?_
          simp only [Act.put, List.setIfInBounds_toArray, List.set_cons_zero, List.set_cons_succ]
          refine WL.midA (by kernel_rfl) 82 (.tmp 44) rfl gF (0 + t2 * 3) rfl (fldA 1) _ hr2 Try.underlying82 rfl (Try.size82B 1) ?_
          simp only [Act.put, List.setIfInBounds_toArray, List.set_cons_zero, List.set_cons_succ]
          refine WL.new (by kernel_rfl) 82 rfl _ Try.new82 ?_
          simp only [Act.put, List.setIfInBounds_toArray, List.set_cons_zero, List.set_cons_succ]
          refine WL.storeR (by kernel_rfl) 82 (.tmp 11) (.tmp 45) rfl ws.heap.size (fldA 1) rfl rfl 82 noF (Blk.new ws 82 noF) (Try.size82B 1) (noF_sizes 1) (fldA_one 1) ?_
          have HN := Keep.mk ((Blk.new ws 82 noF).setRow (fldA 1))
          have HGq : Keep (Below ws.heap.size ws ((ws.alloc (.cells noF 82)).setRow ws.heap.size (fldA 1))) := ⟨below_setRow (below_new ws _) (Nat.le_refl _) _⟩
          generalize (ws.alloc (.cells noF 82)).setRow ws.heap.size (fldA 1) = wy at *
          have cf : wy.cell? ⟨ws.heap.size, 1, none⟩ = some (fnv 71) := HN.out.c 1 rfl
          unfold fnv at cf
          have HOy := Keep.mk (KO2.out.below HGq.out)
          have HXy := Keep.mk (KX2.out.below HGq.out KX2.out.lt)
          simp only [Act.put]
          refine WL.nil ?_
          refine hK22 _ _ ?_
          refine wp_region_list (WL.out ?_)
          refine WL.val (by kernel_rfl) (.pointer (some ⟨ws.heap.size, 1, none⟩)) (by go_simp) ?_
          simp only [Act.put, List.setIfInBounds_toArray, List.set_cons_zero, List.set_cons_succ]
          refine WL.val (by kernel_rfl) (.func (.func 71) #[] #[]) (by go_simp) ?_
          simp only [Act.put, List.setIfInBounds_toArray, List.set_cons_zero, List.set_cons_succ]
          refine WL.val (by kernel_rfl) (.pointer (some ⟨p, 0, none⟩)) (by go_simp) ?_
          simp only [Act.put, List.setIfInBounds_toArray, List.set_cons_zero, List.set_cons_succ]
          refine WL.row (by kernel_rfl) 33 (.tmp 9) rfl gx rfl 33 (opA x) _ HXy.out Try.underlying33 rfl (Try.size33B x) ?_
          simp only [Act.put, List.setIfInBounds_toArray, List.set_cons_zero, List.set_cons_succ]
          refine WL.callV (by kernel_rfl) 71 (.tmp 47) _ _ rfl rfl Try.in71 #[ptr p, .agg (opA x)] (by simp [Act.eval]) ?_
          refine (put1_any p vi L2 x wy HOy.out Hx.out Kbd.out).mono ?_
          rintro e w9 hp
          obtain ⟨rfl, v9, hO9, hM9, hG9⟩ := hp
          refine ⟨_, rfl, ?_⟩
          have HGs : Keep (Grown ws w9 (OF p vi)) := ⟨(Grown.below HGq.out).trans hG9⟩
          have HM9 := Keep.mk hM9
          have HO9 := Keep.mk hO9
          clear hG9 hM9 hO9 cf
          simp only [Act.put, List.setIfInBounds_toArray, List.set_cons_zero, List.set_cons_succ]
          refine WL.nil ?_
          refine hK21 _ _ ?_
          refine wp_region_list (WL.out ?_)
          refine WL.val (by kernel_rfl) (.int .i64 ((t2 : Int) + 1)) (by go_simp) ?_
          simp only [Act.put, List.setIfInBounds_toArray, List.set_cons_zero, List.set_cons_succ]
          refine WL.val (by kernel_rfl) (.int .i64 ((t2 : Int) + 1)) (by go_simp) ?_
          simp only [Act.put, List.setIfInBounds_toArray, List.set_cons_zero, List.set_cons_succ]
          refine WL.nil ?_
          refine ⟨⟨t2 + 1, .pointer (some ⟨ws.heap.size, 0, none⟩), .bool true, .pointer (some ⟨gF, 0 + t2 * 3, none⟩), .agg (fldA 1), .pointer (some ⟨ws.heap.size, 1, none⟩), .func (.func 71) #[] #[], .pointer (some ⟨p, 0, none⟩), .agg (opA x), .tuple #[], .int .i64 ((t2 : Int) + 1), rfl, by omega, v9, by rw [Knx2.out, ← List.append_assoc, ← KL2.out]; exact HO9.out, KM2.out.trans KG2.out.size (HM9.out.mono HGq.out.size), KG2.out.next HGs.out fun k hk ho => ?_, KO2.out.tab KT2.out HGs.out, KO2.out.fields KF2.out HGs.out, KO2.out.keeps KX2.out (by decide) (by decide) HGs.out⟩, ?_⟩
          · rcases ho with rfl | ho
            · exact .inl rfl
            · exact .inr (KM2.out.old hk ho)
          · simp only [intOf]; show is.length - ((t2 : Int) + 1).toNat < is.length - ((t2 : Int)).toNat; omega
        · refine wp_seq_k fun K23 hK23 => ?_
          refine wp_region_list (WL.out ?_)
          refine WL.val (by kernel_rfl) (.bool true) (by go_simp) ?_
          simp only [Act.put, List.setIfInBounds_toArray, List.set_cons_zero, List.set_cons_succ]
          refine WL.nil ?_
          refine hK23 _ _ ?_
          refine wp_seq_k fun K24 hK24 => ?_
          refine wp_cond_true rfl ?_
          refine wp_skip ?_
          refine hK24 _ _ ?_
          refine wp_seq_k fun K25 hK25 => ?_
          refine wp_block ?_
          refine wp_seq_k fun K26 hK26 => ?_
          refine wp_region_list (WL.out ?_)
          refine WL.val (by kernel_rfl) (.pointer (some ⟨gF, 0 + t2 * 3, none⟩)) (by go_simp) ?_
          simp only [Act.put, List.setIfInBounds_toArray, List.set_cons_zero, List.set_cons_succ]
          refine WL.midA (by kernel_rfl) 82 (.tmp 44) rfl gF (0 + t2 * 3) rfl (fldA 2) _ hr2 Try.underlying82 rfl (Try.size82B 2) ?_
          simp only [Act.put, List.setIfInBounds_toArray, List.set_cons_zero, List.set_cons_succ]
          refine WL.new (by kernel_rfl) 82 rfl _ Try.new82 ?_
          simp only [Act.put, List.setIfInBounds_toArray, List.set_cons_zero, List.set_cons_succ]
          refine WL.storeR (by kernel_rfl) 82 (.tmp 11) (.tmp 45) rfl ws.heap.size (fldA 2) rfl rfl 82 noF (Blk.new ws 82 noF) (Try.size82B 2) (noF_sizes 2) (fldA_one 2) ?_
          have HN := Keep.mk ((Blk.new ws 82 noF).setRow (fldA 2))
          have HGq : Keep (Below ws.heap.size ws ((ws.alloc (.cells noF 82)).setRow ws.heap.size (fldA 2))) := ⟨below_setRow (below_new ws _) (Nat.le_refl _) _⟩
          generalize (ws.alloc (.cells noF 82)).setRow ws.heap.size (fldA 2) = wy at *
          have cf : wy.cell? ⟨ws.heap.size, 1, none⟩ = some (fnv 74) := HN.out.c 1 rfl
          unfold fnv at cf
          have HOy := Keep.mk (KO2.out.below HGq.out)
          have HXy := Keep.mk (KX2.out.below HGq.out KX2.out.lt)
          simp only [Act.put]
          refine WL.nil ?_
          refine hK26 _ _ ?_
          refine wp_region_list (WL.out ?_)
          refine WL.val (by kernel_rfl) (.pointer (some ⟨ws.heap.size, 1, none⟩)) (by go_simp) ?_
          simp only [Act.put, List.setIfInBounds_toArray, List.set_cons_zero, List.set_cons_succ]
          refine WL.val (by kernel_rfl) (.func (.func 74) #[] #[]) (by go_simp) ?_
          simp only [Act.put, List.setIfInBounds_toArray, List.set_cons_zero, List.set_cons_succ]
          refine WL.val (by kernel_rfl) (.pointer (some ⟨p, 0, none⟩)) (by go_simp) ?_
          simp only [Act.put, List.setIfInBounds_toArray, List.set_cons_zero, List.set_cons_succ]
          refine WL.row (by kernel_rfl) 33 (.tmp 9) rfl gx rfl 33 (opA x) _ HXy.out Try.underlying33 rfl (Try.size33B x) ?_
          simp only [Act.put, List.setIfInBounds_toArray, List.set_cons_zero, List.set_cons_succ]
          refine WL.callV (by kernel_rfl) 74 (.tmp 47) _ _ rfl rfl Try.in74 #[ptr p, .agg (opA x)] (by simp [Act.eval]) ?_
          refine (put2_any p vi L2 x wy HOy.out Hx.out Kbd.out).mono ?_
          rintro e w9 hp
          obtain ⟨rfl, v9, hO9, hM9, hG9⟩ := hp
          refine ⟨_, rfl, ?_⟩
          have HGs : Keep (Grown ws w9 (OF p vi)) := ⟨(Grown.below HGq.out).trans hG9⟩
          have HM9 := Keep.mk hM9
          have HO9 := Keep.mk hO9
          clear hG9 hM9 hO9 cf
          simp only [Act.put, List.setIfInBounds_toArray, List.set_cons_zero, List.set_cons_succ]
          refine WL.nil ?_
          refine hK25 _ _ ?_
          refine wp_region_list (WL.out ?_)
          refine WL.val (by kernel_rfl) (.int .i64 ((t2 : Int) + 1)) (by go_simp) ?_
          simp only [Act.put, List.setIfInBounds_toArray, List.set_cons_zero, List.set_cons_succ]
          refine WL.val (by kernel_rfl) (.int .i64 ((t2 : Int) + 1)) (by go_simp) ?_
          simp only [Act.put, List.setIfInBounds_toArray, List.set_cons_zero, List.set_cons_succ]
          refine WL.nil ?_
          refine ⟨⟨t2 + 1, .pointer (some ⟨ws.heap.size, 0, none⟩), .bool true, .pointer (some ⟨gF, 0 + t2 * 3, none⟩), .agg (fldA 2), .pointer (some ⟨ws.heap.size, 1, none⟩), .func (.func 74) #[] #[], .pointer (some ⟨p, 0, none⟩), .agg (opA x), .tuple #[], .int .i64 ((t2 : Int) + 1), rfl, by omega, v9, by rw [Knx2.out, ← List.append_assoc, ← KL2.out]; exact HO9.out, KM2.out.trans KG2.out.size (HM9.out.mono HGq.out.size), KG2.out.next HGs.out fun k hk ho => ?_, KO2.out.tab KT2.out HGs.out, KO2.out.fields KF2.out HGs.out, KO2.out.keeps KX2.out (by decide) (by decide) HGs.out⟩, ?_⟩
          · rcases ho with rfl | ho
            · exact .inl rfl
            · exact .inr (KM2.out.old hk ho)
          · simp only [intOf]; show is.length - ((t2 : Int) + 1).toNat < is.length - ((t2 : Int)).toNat; omega
        · refine wp_seq_k fun K27 hK27 => ?_
          refine wp_region_list (WL.out ?_)
          refine WL.val (by kernel_rfl) (.bool true) (by go_simp) ?_
          simp only [Act.put, List.setIfInBounds_toArray, List.set_cons_zero, List.set_cons_succ]
          refine WL.nil ?_
          refine hK27 _ _ ?_
          refine wp_seq_k fun K28 hK28 => ?_
          refine wp_cond_true rfl ?_
          refine wp_skip ?_
          refine hK28 _ _ ?_
          refine wp_seq_k fun K29 hK29 => ?_
          refine wp_block ?_
          refine wp_seq_k fun K30 hK30 => ?_
          refine wp_region_list (WL.out ?_)
          refine WL.val (by kernel_rfl) (.pointer (some ⟨gF, 0 + t2 * 3, none⟩)) (by go_simp) ?_
          simp only [Act.put, List.setIfInBounds_toArray, List.set_cons_zero, List.set_cons_succ]
          refine WL.midA (by kernel_rfl) 82 (.tmp 44) rfl gF (0 + t2 * 3) rfl (fldA 3) _ hr2 Try.underlying82 rfl (Try.size82B 3) ?_
          simp only [Act.put, List.setIfInBounds_toArray, List.set_cons_zero, List.set_cons_succ]
          refine WL.new (by kernel_rfl) 82 rfl _ Try.new82 ?_
          simp only [Act.put, List.setIfInBounds_toArray, List.set_cons_zero, List.set_cons_succ]
          refine WL.storeR (by kernel_rfl) 82 (.tmp 11) (.tmp 45) rfl ws.heap.size (fldA 3) rfl rfl 82 noF (Blk.new ws 82 noF) (Try.size82B 3) (noF_sizes 3) (fldA_one 3) ?_
          have HN := Keep.mk ((Blk.new ws 82 noF).setRow (fldA 3))
          have HGq : Keep (Below ws.heap.size ws ((ws.alloc (.cells noF 82)).setRow ws.heap.size (fldA 3))) := ⟨below_setRow (below_new ws _) (Nat.le_refl _) _⟩
          generalize (ws.alloc (.cells noF 82)).setRow ws.heap.size (fldA 3) = wy at *
          have cf : wy.cell? ⟨ws.heap.size, 1, none⟩ = some (fnv 79) := HN.out.c 1 rfl
          unfold fnv at cf
          have HOy := Keep.mk (KO2.out.below HGq.out)
          have HXy := Keep.mk (KX2.out.below HGq.out KX2.out.lt)
          simp only [Act.put]
          refine WL.nil ?_
          refine hK30 _ _ ?_
          refine wp_region_list (WL.out ?_)
          refine WL.val (by kernel_rfl) (.pointer (some ⟨ws.heap.size, 1, none⟩)) (by go_simp) ?_
          simp only [Act.put, List.setIfInBounds_toArray, List.set_cons_zero, List.set_cons_succ]
          refine WL.val (by kernel_rfl) (.func (.func 79) #[] #[]) (by go_simp) ?_
          simp only [Act.put, List.setIfInBounds_toArray, List.set_cons_zero, List.set_cons_succ]
          refine WL.val (by kernel_rfl) (.pointer (some ⟨p, 0, none⟩)) (by go_simp) ?_
          simp only [Act.put, List.setIfInBounds_toArray, List.set_cons_zero, List.set_cons_succ]
          refine WL.row (by kernel_rfl) 33 (.tmp 9) rfl gx rfl 33 (opA x) _ HXy.out Try.underlying33 rfl (Try.size33B x) ?_
          simp only [Act.put, List.setIfInBounds_toArray, List.set_cons_zero, List.set_cons_succ]
          refine WL.callV (by kernel_rfl) 79 (.tmp 47) _ _ rfl rfl Try.in79 #[ptr p, .agg (opA x)] (by simp [Act.eval]) ?_
          refine (put3_any p vi L2 x wy HOy.out Hx.out (Ki3.out rfl).1 (Ki3.out rfl).2 Kbd.out).mono ?_
          rintro e w9 hp
          obtain ⟨rfl, v9, hO9, hM9, hG9⟩ := hp
          refine ⟨_, rfl, ?_⟩
          have HGs : Keep (Grown ws w9 (OF p vi)) := ⟨(Grown.below HGq.out).trans hG9⟩
          have HM9 := Keep.mk hM9
          have HO9 := Keep.mk hO9
          clear hG9 hM9 hO9 cf
          simp only [Act.put, List.setIfInBounds_toArray, List.set_cons_zero, List.set_cons_succ]
          refine WL.nil ?_
          refine hK29 _ _ ?_
          refine wp_region_list (WL.out ?_)
          refine WL.val (by kernel_rfl) (.int .i64 ((t2 : Int) + 1)) (by go_simp) ?_
          simp only [Act.put, List.setIfInBounds_toArray, List.set_cons_zero, List.set_cons_succ]
          refine WL.val (by kernel_rfl) (.int .i64 ((t2 : Int) + 1)) (by go_simp) ?_
          simp only [Act.put, List.setIfInBounds_toArray, List.set_cons_zero, List.set_cons_succ]
          refine WL.nil ?_
          refine ⟨⟨t2 + 1, .pointer (some ⟨ws.heap.size, 0, none⟩), .bool true, .pointer (some ⟨gF, 0 + t2 * 3, none⟩), .agg (fldA 3), .pointer (some ⟨ws.heap.size, 1, none⟩), .func (.func 79) #[] #[], .pointer (some ⟨p, 0, none⟩), .agg (opA x), .tuple #[], .int .i64 ((t2 : Int) + 1), rfl, by omega, v9, by rw [Knx2.out, ← List.append_assoc, ← KL2.out]; exact HO9.out, KM2.out.trans KG2.out.size (HM9.out.mono HGq.out.size), KG2.out.next HGs.out fun k hk ho => ?_, KO2.out.tab KT2.out HGs.out, KO2.out.fields KF2.out HGs.out, KO2.out.keeps KX2.out (by decide) (by decide) HGs.out⟩, ?_⟩
          · rcases ho with rfl | ho
            · exact .inl rfl
            · exact .inr (KM2.out.old hk ho)
          · simp only [intOf]; show is.length - ((t2 : Int) + 1).toNat < is.length - ((t2 : Int)).toNat; omega
      · have ht2e : t2 = is.length := by omega
        have htl2' : ¬ (t2 : Int) < (is.length : Int) := by omega
        rw [ht2e, List.take_length] at hO2
        clear ht2e
        have KO2 := Keep.mk hO2
        have KM2 := Keep.mk hM2
        have KG2 := Keep.mk hG2
        have KT2 := Keep.mk hT2
        clear hO2 hM2 hG2 hT2 hF2 hX2
        refine wp_seq_k fun K31 hK31 => ?_
        refine wp_region_list (WL.out ?_)
        refine WL.val (by kernel_rfl) (.bool false) (by go_simp) ?_
        simp only [Act.put, List.setIfInBounds_toArray, List.set_cons_zero, List.set_cons_succ]
        refine WL.nil ?_
        refine hK31 _ _ ?_
        refine wp_seq_k fun K32 hK32 => ?_
        refine wp_cond_false rfl ?_
        refine wp_exit ?_
        refine hK11 _ _ ?_
        refine wp_region_list (WL.out ?_)
        refine WL.val (by kernel_rfl) (.int .i64 ((t : Int) + 1)) (by go_simp) ?_
        simp only [Act.put, List.setIfInBounds_toArray, List.set_cons_zero, List.set_cons_succ]
        refine WL.val (by kernel_rfl) (.int .i64 ((t : Int) + 1)) (by go_simp) ?_
        simp only [Act.put, List.setIfInBounds_toArray, List.set_cons_zero, List.set_cons_succ]
        refine WL.nil ?_
        rw [Jfull.out] at KO2
        refine ⟨⟨t + 1, .pointer (some ⟨gx, 0, none⟩), u11, .bool true, .pointer (some ⟨gL, ofL + t * 37, none⟩), .agg (opA x), .pointer (some ⟨p, 0, none⟩), .pointer (some ⟨gx, 0, none⟩), .int .i64 x.kind, .int .u8 x.kind, .tuple #[], .map (some m), .pointer (some ⟨gx, 0, none⟩), .int .i64 x.kind, .slice fa is.length fc, .int .i64 (is.length : Int), .int .i64 (t2 : Int), .bool false, u44, u45, u46, u47, u48, u49, u50, u51, .int .i64 ((t : Int) + 1), rfl, by omega, vi, KO2.out, KM2.out, KG2.out, KT2.out⟩, ?_⟩
        simp only [intOf]; show l.length - ((t : Int) + 1).toNat < l.length - ((t : Int)).toNat; omega
    · obtain rfl : t = l.length := by omega
      have htl' : ¬ (l.length : Int) < (l.length : Int) := by omega
      rw [List.take_length, List.append_assoc] at hO
      refine wp_seq_k fun K33 hK33 => ?_
      refine wp_region_list (WL.out ?_)
      refine WL.val (by kernel_rfl) (.bool false) (by go_simp) ?_
      simp only [Act.put, List.setIfInBounds_toArray, List.set_cons_zero, List.set_cons_succ]
      refine WL.nil ?_
      refine hK33 _ _ ?_
      refine wp_seq_k fun K34 hK34 => ?_
      refine wp_cond_false rfl ?_
      refine wp_exit ?_
      refine hK7 _ _ ?_
      refine wp_seq_k fun K35 hK35 => ?_
      refine wp_region_list (WL.out ?_)
      refine WL.val (by kernel_rfl) (.int .i64 0) (by go_simp) ?_
      simp only [Act.put, List.setIfInBounds_toArray, List.set_cons_zero, List.set_cons_succ]
      refine WL.nil ?_
      refine hK35 _ _ ?_
      refine wp_ret ?_
      go_ret
      exact ⟨by rw [HC0.out]; rfl, vo, by rw [if_pos HC0.out]; exact hO, hM, hG⟩
  · clear h hl hok hb hsep hbb
    refine wp_seq_k fun K1 hK1 => ?_
    refine wp_region_list (WL.out ?_)
    refine WL.val (by kernel_rfl) (.int .i64 0) (by go_simp) ?_
    simp only [Act.put, List.setIfInBounds_toArray, List.set_cons_zero, List.set_cons_succ]
    refine WL.nil ?_
    refine hK1 _ _ ?_
    refine wp_seq_k fun K2 hK2 => ?_
    refine wp_seq_k fun K3 hK3 => ?_
    refine wp_region_list (WL.out ?_)
    refine WL.val (by kernel_rfl) (.slice va l.length vc) (by go_simp) ?_
    simp only [Act.put, List.setIfInBounds_toArray, List.set_cons_zero, List.set_cons_succ]
    refine WL.callF (by kernel_rfl) 10 _ _ rfl Try.in10 #[.slice va l.length vc] (by simp [Act.eval]) ?_
    refine (check_any _ l w HL.out Hok.out Hlb.out).mono ?_
    rintro e w1 ⟨rfl, h1⟩
    refine ⟨_, rfl, ?_⟩
    have HB1 := Keep.mk h1
    clear h1
    simp only [Act.put, List.setIfInBounds_toArray, List.set_cons_zero, List.set_cons_succ]
    refine WL.val (by kernel_rfl) (.tuple #[.int .i64 (chk l).1, .int .i64 ((chk l).2 : Int)]) (by go_simp) ?_
    simp only [Act.put, List.setIfInBounds_toArray, List.set_cons_zero, List.set_cons_succ]
    refine WL.val (by kernel_rfl) (.int .i64 (chk l).1) (by go_simp) ?_
    simp only [Act.put, List.setIfInBounds_toArray, List.set_cons_zero, List.set_cons_succ]
    refine WL.val (by kernel_rfl) (.int .i64 ((chk l).2 : Int)) (by go_simp) ?_
    simp only [Act.put, List.setIfInBounds_toArray, List.set_cons_zero, List.set_cons_succ]
    refine WL.val (by kernel_rfl) (.int .i64 (chk l).1) (by go_simp) ?_
    simp only [Act.put, List.setIfInBounds_toArray, List.set_cons_zero, List.set_cons_succ]
    refine WL.val (by kernel_rfl) (.int .i64 ((chk l).2 : Int)) (by go_simp) ?_
    simp only [Act.put, List.setIfInBounds_toArray, List.set_cons_zero, List.set_cons_succ]
    refine WL.nil ?_
    refine hK3 _ _ ?_
    refine wp_seq_k fun K4 hK4 => ?_
    refine wp_region_list (WL.out ?_)
    refine WL.val (by kernel_rfl) (.int .i64 (chk l).1) (by go_simp) ?_
    simp only [Act.put, List.setIfInBounds_toArray, List.set_cons_zero, List.set_cons_succ]
    refine WL.val (by kernel_rfl) (.bool true) (by go_simp) ?_
    simp only [Act.put, List.setIfInBounds_toArray, List.set_cons_zero, List.set_cons_succ]
    refine WL.nil ?_
    refine hK4 _ _ ?_
    refine wp_cond_true rfl ?_
    refine wp_seq_k fun K5 hK5 => ?_
    refine wp_region_list (WL.out ?_)
    refine WL.val (by kernel_rfl) (.int .i64 (chk l).1) (by go_simp) ?_
    simp only [Act.put, List.setIfInBounds_toArray, List.set_cons_zero, List.set_cons_succ]
    refine WL.val (by kernel_rfl) (.int .i64 (chk l).1) (by go_simp) ?_
    simp only [Act.put, List.setIfInBounds_toArray, List.set_cons_zero, List.set_cons_succ]
    refine WL.nil ?_
    refine hK5 _ _ ?_
    refine wp_ret ?_
    go_ret
    exact ⟨rfl, v, by rw [if_neg hC]; exact HO.out.below HB1.out, Moved.refl _ _, Grown.below HB1.out⟩

end Go.Proofs.Ytbkboebinhafhaa
