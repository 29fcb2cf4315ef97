import Derived.Test.YtgpgnldcdimmbaaV04
namespace Go.Proofs.Ytgpgnldcdimmbaa
open Go.RowKit
set_option linter.unusedSimpArgs false

theorem fm_next {α β : Type} (f : α → List β) (l : List α) (t : Nat) (ht : t < l.length) (d : α) : (l.take (t + 1)).flatMap f = (l.take t).flatMap f ++ f (l.getD t d) := by
  rw [List.take_succ_eq_append_getElem ht, List.flatMap_append]
  simp [List.getD_eq_getElem?_getD, ht]
theorem fm_len {α β : Type} (f : α → List β) (l : List α) (t : Nat) : ((l.take t).flatMap f).length ≤ (l.flatMap f).length := by
  conv => rhs; rw [← List.take_append_drop t l, List.flatMap_append, List.length_append]
  omega
theorem chkF_ok : ∀ (r a : List OpV), (chkF a r).1 = 0 → ∀ i x, r[i]? = some x → wrongV (a ++ r.take i) x = 0
  | [], _, _, i, x, hx => by simp at hx
  | y :: r, a, h, i, x, hx => by
    rw [chkF] at h
    by_cases hw : wrongV a y = 0
    · rw [if_pos hw] at h
      cases i with
      | zero => simp at hx; subst hx; simpa using hw
      | succ i =>
        have := chkF_ok r (a ++ [y]) h i x (by simpa using hx)
        simpa [List.append_assoc] using this
    · rw [if_neg hw] at h
      exact absurd h hw
theorem chk_ok {l : List OpV} (h : (chk l).1 = 0) : l.length ≤ 1024 ∧ ∀ i x, l[i]? = some x → wrongV (l.take i) x = 0 := by
  unfold chk at h
  by_cases hl : 1024 < l.length
  · rw [if_pos hl] at h; simp at h
  · rw [if_neg hl] at h
    exact ⟨by omega, fun i x hx => by simpa using chkF_ok l [] h i x hx⟩
theorem wrongV_ok {a : List OpV} {x : OpV} (h : wrongV a x = 0) : hasI x.kind ≠ [] ∧ x.key.size ≤ 65536 ∧ x.text.size ≤ 65536 ∧ sm (wipes (hasI x.kind) { x with kind := 0 }) zeroOp = true ∧ (cellV x.kind = 4 → mayAt a x = true) := by
  unfold wrongV at h
  by_cases h1 : hasI x.kind = []
  · rw [if_pos h1] at h; simp at h
  rw [if_neg h1] at h
  by_cases h2 : 65536 < x.key.size
  · rw [if_pos h2] at h; simp at h
  rw [if_neg h2] at h
  by_cases h3 : 65536 < x.text.size
  · rw [if_pos h3] at h; simp at h
  rw [if_neg h3] at h
  cases h4 : sm (wipes (hasI x.kind) { x with kind := 0 }) zeroOp with
  | false => rw [if_pos h4] at h; simp at h
  | true =>
    rw [if_neg (by rw [h4]; decide)] at h
    refine ⟨h1, by omega, by omega, rfl, fun h5 => ?_⟩
    rw [if_pos h5] at h
    cases h6 : mayAt a x with
    | true => rfl
    | false => rw [h6] at h; simp at h
theorem mayAt_op {a : List OpV} {x : OpV} (ha : a.length ≤ 1024) (h : mayAt a x = true) : 0 ≤ x.op ∧ x.op ≤ 1024 := by
  unfold mayAt at h
  by_cases h1 : (nd x.node z32 && x.op == 0) = true
  · simp at h1; omega
  rw [if_neg h1] at h
  by_cases h2 : nd x.node z32 = false
  · rw [if_pos h2] at h; simp at h; omega
  rw [if_neg h2] at h
  by_cases h3 : x.op < 1 ∨ (a.length : Int) < x.op
  · rw [if_pos h3] at h; simp at h
  · omega
theorem hasI_mem {k : Int} (h : hasI k ≠ []) : k ∈ ([1, 2, 3, 4, 5, 6, 7, 8, 9] : List Int) := by
  by_cases hk : k ∈ ([1, 2, 3, 4, 5, 6, 7, 8, 9] : List Int)
  · exact hk
  · exact absurd (hasI_none k hk) h
theorem hasI_rng {k : Int} (h : hasI k ≠ []) : 1 ≤ k ∧ k ≤ 9 := by
  have := hasI_mem h
  simp only [List.mem_cons, List.not_mem_nil, or_false] at this
  omega
theorem hasI_three {k : Int} (h : 3 ∈ hasI k) : cellV k = 4 := by
  have h1 : hasI k ≠ [] := fun e => by rw [e] at h; simp at h
  have := hasI_mem h1
  simp only [List.mem_cons, List.not_mem_nil, or_false] at this
  rcases this with rfl | rfl | rfl | rfl | rfl | rfl | rfl | rfl | rfl <;> first | (exact absurd h (by decide)) | rfl
theorem Moved.mono {a b : World} {v v' : Value} (h : Moved b v v') (hs : a.heap.size ≤ b.heap.size) : Moved a v v' := (Moved.refl a v).trans hs h
set_option maxRecDepth 8000 in
set_option maxHeartbeats 2000000 in
theorem put_anyE (p : Nat) (v : Value) (L0 : List Int) (vl : Value) (l : List OpV) (w : World) (h : OutAt w p v L0) (hl : OpsAt w vl l) (hok : ∀ x ∈ l, OpOk x) (hb : l.length ≤ 4398046511104)
    (hsep : l ≠ [] → ∀ k, vl.ownBlock = some k → ¬ OF p v k) (hbb : (chk l).1 = 0 → L0.length + (formL l).length ≤ 200000000000000) :
    Calls Try.prog 46 #[ptr p, vl] w fun e w' => e = .returned (.int .i64 (chk l).1) ∧ ∃ v', OutAt w' p v' (if (chk l).1 = 0 then L0 ++ formL l else L0) ∧ Moved w v v' ∧ Grown w w' (OF p v) := by
  obtain ⟨va, vc, rfl⟩ := hl.form
  have HO := Keep.mk h
  have HL := Keep.mk hl
  have Hok := Keep.mk hok
  have Hlb := Keep.mk hb
  have Hsep := Keep.mk hsep
  have hb' : (l.length : Int) ≤ 9223372036854775807 := by omega
  have hwl : IntKind.u64.wrap (l.length : Int) = (l.length : Int) := by rw [IntKind.wrap_u64]; omega
  go_enter Try.func46, Try.ntmps46
  by_cases hC : (chk l).1 = 0
  · have Hbb := Keep.mk (hbb hC)
    have Hok2 := Keep.mk (chk_ok hC)
    have HC0 := Keep.mk hC
    clear h hl hok hb hsep hbb
    refine wp_seq_k fun K1 hK1 => ?_
    refine wp_region_list (WL.out ?_)
    refine WL.val (by kernel_rfl) (.int .i64 0) (by go_simp) ?_
    simp only [Act.put, List.setIfInBounds_toArray, List.set_cons_zero, List.set_cons_succ]
    refine WL.nil ?_
    refine hK1 _ _ ?_
    refine wp_seq_k fun K2 hK2 => ?_
    refine wp_seq_k fun K3 hK3 => ?_
    refine wp_region_list (WL.out ?_)
    refine WL.val (by kernel_rfl) (.slice va l.length vc) (by go_simp) ?_
    simp only [Act.put, List.setIfInBounds_toArray, List.set_cons_zero, List.set_cons_succ]
    refine WL.callF (by kernel_rfl) 30 _ _ rfl Try.in30 #[.slice va l.length vc] (by simp [Act.eval]) ?_
    refine (check_any _ l w HL.out Hok.out Hlb.out).mono ?_
    rintro e w1 ⟨rfl, h1⟩
    refine ⟨_, rfl, ?_⟩
    have HB1 := Keep.mk h1
    clear h1
    simp only [Act.put, List.setIfInBounds_toArray, List.set_cons_zero, List.set_cons_succ]
    refine WL.val (by kernel_rfl) (.tuple #[.int .i64 (chk l).1, .int .i64 ((chk l).2 : Int)]) (by go_simp) ?_
    simp only [Act.put, List.setIfInBounds_toArray, List.set_cons_zero, List.set_cons_succ]
    refine WL.val (by kernel_rfl) (.int .i64 (chk l).1) (by go_simp) ?_
    simp only [Act.put, List.setIfInBounds_toArray, List.set_cons_zero, List.set_cons_succ]
    refine WL.val (by kernel_rfl) (.int .i64 ((chk l).2 : Int)) (by go_simp) ?_
    simp only [Act.put, List.setIfInBounds_toArray, List.set_cons_zero, List.set_cons_succ]
    refine WL.val (by kernel_rfl) (.int .i64 (chk l).1) (by go_simp) ?_
    simp only [Act.put, List.setIfInBounds_toArray, List.set_cons_zero, List.set_cons_succ]
    refine WL.val (by kernel_rfl) (.int .i64 ((chk l).2 : Int)) (by go_simp) ?_
    simp only [Act.put, List.setIfInBounds_toArray, List.set_cons_zero, List.set_cons_succ]
    refine WL.nil ?_
    refine hK3 _ _ ?_
    refine wp_seq_k fun K4 hK4 => ?_
    refine wp_region_list (WL.out ?_)
    refine WL.val (by kernel_rfl) (.int .i64 (chk l).1) (by go_simp) ?_
    simp only [Act.put, List.setIfInBounds_toArray, List.set_cons_zero, List.set_cons_succ]
    refine WL.val (by kernel_rfl) (.bool false) (by go_simp) ?_
    simp only [Act.put, List.setIfInBounds_toArray, List.set_cons_zero, List.set_cons_succ]
    refine WL.nil ?_
    refine hK4 _ _ ?_
    refine wp_cond_false rfl ?_
    refine wp_skip ?_
    refine hK2 _ _ ?_
    refine wp_seq_k fun K5 hK5 => ?_
    refine wp_region_list (WL.out ?_)
    refine WL.callF (by kernel_rfl) 53 _ _ rfl Try.in53 #[] (by simp) ?_
    refine (tab_any w1).mono ?_
    rintro e w2 ⟨m, rfl, hT2, hm2, hB2⟩
    refine ⟨_, rfl, ?_⟩
    have HB2 := Keep.mk (HB1.out.trans (hB2.mono HB1.out.size))
    have HT2 := Keep.mk hT2
    have HO2 := Keep.mk (HO.out.below HB2.out)
    clear hT2 hm2 hB2
    simp only [Act.put, List.setIfInBounds_toArray, List.set_cons_zero, List.set_cons_succ]
    refine WL.val (by kernel_rfl) (.map (some m)) (by go_simp) ?_
    simp only [Act.put, List.setIfInBounds_toArray, List.set_cons_zero, List.set_cons_succ]
    refine WL.nil ?_
    refine hK5 _ _ ?_
    refine wp_seq_k fun K6 hK6 => ?_
    refine wp_region_list (WL.out ?_)
    refine WL.val (by kernel_rfl) (.pointer (some ⟨p, 0, none⟩)) (by go_simp) ?_
    simp only [Act.put, List.setIfInBounds_toArray, List.set_cons_zero, List.set_cons_succ]
    refine WL.val (by kernel_rfl) (.slice va l.length vc) (by go_simp) ?_
    simp only [Act.put, List.setIfInBounds_toArray, List.set_cons_zero, List.set_cons_succ]
    refine WL.val (by kernel_rfl) (.int .i64 (l.length : Int)) (by go_simp) ?_
    simp only [Act.put, List.setIfInBounds_toArray, List.set_cons_zero, List.set_cons_succ]
    refine WL.val (by kernel_rfl) (.int .u64 (l.length : Int)) (by go_simp) ?_
    simp only [Act.put, List.setIfInBounds_toArray, List.set_cons_zero, List.set_cons_succ]
    refine WL.callF (by kernel_rfl) 44 _ _ rfl Try.in44 #[ptr p, .int .u64 (l.length : Int)] (by simp [Act.eval]) ?_
    refine (onum_any p v L0 l.length w2 HO2.out (by have := Hlb.out; omega) (by have := Hbb.out; unfold formL at this; rw [List.length_append] at this ⊢; omega)).mono ?_
    rintro e w4 hp
    obtain ⟨rfl, v4, hO4, hM4, hG4⟩ := hp
    refine ⟨_, rfl, ?_⟩
    have H4O := Keep.mk hO4
    have H4M : Keep (Moved w v v4) := ⟨hM4.mono HB2.out.size⟩
    have H4G : Keep (Grown w w4 (OF p v)) := ⟨(Grown.below HB2.out).trans hG4⟩
    have H4T := Keep.mk (HO2.out.tab HT2.out hG4)
    clear hO4 hM4 hG4
    simp only [Act.put, List.setIfInBounds_toArray, List.set_cons_zero, List.set_cons_succ]
    refine WL.nil ?_
    refine hK6 _ _ ?_
    refine wp_seq_k fun K7 hK7 => ?_
    refine wp_seq_k fun K8 hK8 => ?_
    refine wp_region_list (WL.out ?_)
    refine WL.val (by kernel_rfl) (.slice va l.length vc) (by go_simp) ?_
    simp only [Act.put, List.setIfInBounds_toArray, List.set_cons_zero, List.set_cons_succ]
    refine WL.val (by kernel_rfl) (.int .i64 (l.length : Int)) (by go_simp) ?_
    simp only [Act.put, List.setIfInBounds_toArray, List.set_cons_zero, List.set_cons_succ]
    refine WL.val (by kernel_rfl) (.int .i64 0) (by go_simp) ?_
    simp only [Act.put, List.setIfInBounds_toArray, List.set_cons_zero, List.set_cons_succ]
    refine WL.nil ?_
    refine hK8 _ _ ?_
    refine wp_block ?_
    refine wp_loop (fun a wr => ∃ (t : Nat) (u9 u11 u29 u30 u31 u32 u33 u34 u35 u36 u37 u38 u39 u40 u41 u42 u43 u44 u45 u46 u47 u48 u49 u50 u51 u52 : Value), a = { tmps := #[.pointer (some ⟨p, 0, none⟩), .slice va l.length vc, undef, undef, .int .i64 0, .int .i64 (chk l).1, .int .i64 ((chk l).2 : Int), .map (some m), undef, u9, undef, u11, .tuple #[.int .i64 (chk l).1, .int .i64 ((chk l).2 : Int)], .slice va l.length vc, .tuple #[.int .i64 (chk l).1, .int .i64 ((chk l).2 : Int)], .int .i64 (chk l).1, .int .i64 ((chk l).2 : Int), .int .i64 (chk l).1, .bool false, undef, .map (some m), .pointer (some ⟨p, 0, none⟩), .slice va l.length vc, .int .i64 (l.length : Int), .int .u64 (l.length : Int), .tuple #[], .slice va l.length vc, .int .i64 (l.length : Int), .int .i64 (t : Int), u29, u30, u31, u32, u33, u34, u35, u36, u37, u38, u39, u40, u41, u42, u43, u44, u45, u46, u47, u48, u49, u50, u51, u52], defers := [] } ∧ t ≤ l.length ∧ ∃ vo, OutAt wr p vo (L0 ++ numL l.length ++ (l.take t).flatMap oneF) ∧ Moved w v vo ∧ Grown w wr (OF p v) ∧ TabAt wr m) (fun a _ => l.length - (intOf (a.tmps.getD 28 undef)).toNat) ⟨0, undef, undef, undef, undef, undef, undef, undef, undef, undef, undef, undef, undef, undef, undef, undef, undef, undef, undef, undef, undef, undef, undef, undef, undef, undef, undef, rfl, by omega, v4, by rw [List.take_zero, List.flatMap_nil, List.append_nil]; exact H4O.out, H4M.out, H4G.out, H4T.out⟩ ?_
    rintro a wr ⟨t, u9, u11, u29, u30, u31, u32, u33, u34, u35, u36, u37, u38, u39, u40, u41, u42, u43, u44, u45, u46, u47, u48, u49, u50, u51, u52, rfl, ht, vo, hO, hM, hG, hT⟩
    by_cases htl : t < l.length
    · have htl' : (t : Int) < (l.length : Int) := by omega
      have hLr := HL.out.grown hG (fun b hb _ => Hsep.out (fun e => by rw [e] at htl; exact absurd htl (by simp)) b hb)
      obtain ⟨gL, ofL, hva, hr⟩ := hLr.at htl
      have hgx : l[t]? = some (l.getD t zeroOp) := by simp [List.getD_eq_getElem?_getD, htl]
      have hwx := wrongV_ok (Hok2.out.2 t _ hgx)
      have hmem : l.getD t zeroOp ∈ l := List.mem_of_getElem? hgx
      have Hx := Keep.mk (Hok.out _ hmem)
      have hnx := fm_next oneF l t htl zeroOp
      have hln := fm_len oneF l (t + 1)
      generalize l.getD t zeroOp = x at *
      have hkr := hasI_rng hwx.1
      have hwk : IntKind.u8.wrap x.kind = x.kind := by rw [IntKind.wrap_u8]; omega
      have H3 : Keep (3 ∈ hasI x.kind → 0 ≤ x.op ∧ x.op ≤ 1024) := ⟨fun h3 => mayAt_op (by rw [List.length_take]; have := Hok2.out.1; omega) (hwx.2.2.2.2 (hasI_three h3))⟩
      have Hi4 := Keep.mk (hasI_lt x.kind)
      have Hn3 := Keep.mk (hasI_len x.kind)
      obtain ⟨is, his⟩ : ∃ is, is = hasI x.kind := ⟨_, rfl⟩
      obtain ⟨L1, hL1⟩ : ∃ L1, L1 = L0 ++ numL l.length ++ (l.take t).flatMap oneF ++ [x.kind] := ⟨_, rfl⟩
      have hone : oneF x = x.kind :: is.flatMap fun i => putF i x := by rw [his]; rfl
      have hfull : L1 ++ (is.flatMap fun i => putF i x) = L0 ++ numL l.length ++ (l.take (t + 1)).flatMap oneF := by rw [hnx, hone, hL1]; simp
      have Hbd : Keep ((L1 ++ is.flatMap fun i => putF i x).length ≤ 200000000000000) := ⟨by
        rw [hfull, List.length_append, List.length_append]
        have := Hbb.out
        unfold formL at this
        rw [List.length_append] at this
        omega⟩
      have Hb1 : Keep ((L0 ++ numL l.length ++ (l.take t).flatMap oneF ++ [x.kind]).length ≤ 200000000000000) := ⟨by rw [← hL1]; have := Hbd.out; rw [List.length_append] at this; omega⟩
      have hwr1 : IntKind.i64.wrap ((t : Int) + 1) = (t : Int) + 1 := by rw [IntKind.wrap_i64]; have := Hlb.out; omega
      rw [← his] at H3 Hi4 Hn3
      have hkx1 := hkr.1
      have hkx2 := hkr.2
      have JO := Keep.mk hO
      have JM := Keep.mk hM
      have JG := Keep.mk hG
      have JT := Keep.mk hT
      have Jfull := Keep.mk hfull
      have Jis := Keep.mk his
      have JL1 := Keep.mk hL1
      clear hO hM hG hT hLr hnx hln hone hfull hwx hkr his hL1 hmem hgx
      refine wp_seq_k fun K9 hK9 => ?_
      refine wp_region_list (WL.out ?_)
      refine WL.val (by kernel_rfl) (.bool true) (by go_simp) ?_
      simp only [Act.put, List.setIfInBounds_toArray, List.set_cons_zero, List.set_cons_succ]
      refine WL.nil ?_
      refine hK9 _ _ ?_
      refine wp_seq_k fun K10 hK10 => ?_
      refine wp_cond_true rfl ?_
      refine wp_skip ?_
      refine hK10 _ _ ?_
      refine wp_seq_k fun K11 hK11 => ?_
      refine wp_block ?_
      refine wp_seq_k fun K12 hK12 => ?_
      refine wp_region_list (WL.out ?_)
      refine WL.val (by kernel_rfl) (.pointer (some ⟨gL, ofL + t * 37, none⟩)) (by go_simp) ?_
      simp only [Act.put, List.setIfInBounds_toArray, List.set_cons_zero, List.set_cons_succ]
      refine WL.mid (by kernel_rfl) 79 (.tmp 30) rfl gL (ofL + t * 37) rfl (opL x) _ hr Try.underlying79 rfl (Try.size79L x) ?_
      rw [rng_load]
      simp only [Act.put, List.setIfInBounds_toArray, List.set_cons_zero, List.set_cons_succ]
      refine WL.new (by kernel_rfl) 79 rfl _ Try.new79 ?_
      simp only [Act.put, List.setIfInBounds_toArray, List.set_cons_zero, List.set_cons_succ]
      refine WL.storeR (by kernel_rfl) 79 (.tmp 9) (.tmp 31) rfl wr.heap.size (opA x) rfl rfl 79 (opA zeroOp) (Blk.new wr 79 _) (Try.size79B x) (opA_sizes _ _) (opA_one x) ?_
      have HX := Keep.mk ((Blk.new wr 79 (opA zeroOp)).setRow (opA x))
      have HGr : Keep (Below wr.heap.size wr ((wr.alloc (.cells (opA zeroOp) 79)).setRow wr.heap.size (opA x))) := ⟨below_setRow (below_new wr _) (Nat.le_refl _) _⟩
      generalize (wr.alloc (.cells (opA zeroOp) 79)).setRow wr.heap.size (opA x) = wq at *
      obtain ⟨gx, hgx⟩ : ∃ gx, Keep (gx = wr.heap.size) := ⟨_, ⟨rfl⟩⟩
      rw [← hgx.out] at HX ⊢
      have k0 := HX.out.c 0 (opA_0 x)
      have HOq := Keep.mk (JO.out.below HGr.out)
      have HTq := Keep.mk (JT.out.below HGr.out)
      simp only [Act.put]
      refine WL.nil ?_
      refine hK12 _ _ ?_
      refine wp_seq_k fun K13 hK13 => ?_
      refine wp_region_list (WL.out ?_)
      refine WL.val (by kernel_rfl) (.pointer (some ⟨p, 0, none⟩)) (by go_simp) ?_
      simp only [Act.put, List.setIfInBounds_toArray, List.set_cons_zero, List.set_cons_succ]
      refine WL.val (by kernel_rfl) (.pointer (some ⟨gx, 0, none⟩)) (by go_simp) ?_
      simp only [Act.put, List.setIfInBounds_toArray, List.set_cons_zero, List.set_cons_succ]
      refine WL.val (by kernel_rfl) (.int .i64 x.kind) (by go_simp) ?_
      simp only [Act.put, List.setIfInBounds_toArray, List.set_cons_zero, List.set_cons_succ]
      refine WL.val (by kernel_rfl) (.int .u8 x.kind) (by go_simp) ?_
      simp only [Act.put, List.setIfInBounds_toArray, List.set_cons_zero, List.set_cons_succ]
      refine WL.callF (by kernel_rfl) 43 _ _ rfl Try.in43 #[ptr p, .int .u8 x.kind] (by simp [Act.eval]) ?_
      refine (obyte_any p vo _ x.kind wq HOq.out Hb1.out).mono ?_
      rintro e w6 hp
      obtain ⟨rfl, vo6, hO6, hM6, hG6⟩ := hp
      refine ⟨_, rfl, ?_⟩
      rw [← JL1.out] at hO6
      have HGs : Keep (Grown wr w6 (OF p vo)) := ⟨(Grown.below HGr.out).trans hG6⟩
      have H6O := Keep.mk hO6
      have H6M : Keep (Moved w v vo6) := ⟨JM.out.trans JG.out.size (hM6.mono HGr.out.size)⟩
      have H6G : Keep (Grown w w6 (OF p v)) := ⟨JG.out.next HGs.out fun k hk ho => by
        rcases ho with rfl | ho
        · exact .inl rfl
        · exact .inr (JM.out.old hk ho)⟩
      have H6T := Keep.mk (JO.out.tab JT.out HGs.out)
      have H6X := Keep.mk (HOq.out.keeps HX.out (by decide) (by decide) hG6)
      obtain ⟨vF, hvF, hlk⟩ := H6T.out.look2 x.kind
      rw [← Jis.out] at hvF
      obtain ⟨fa, fc, rfl⟩ := hvF.form
      have H6F := Keep.mk hvF
      have hlk1 := (hlk w6 (Below.refl _ _)).1
      have k6 := H6X.out.c 0 (opA_0 x)
      clear hO6 hM6 hG6 hvF hlk k0
      simp only [Act.put, List.setIfInBounds_toArray, List.set_cons_zero, List.set_cons_succ]
      refine WL.nil ?_
      refine hK13 _ _ ?_
      refine wp_seq_k fun K14 hK14 => ?_
      refine wp_region_list (WL.out ?_)
      refine WL.val (by kernel_rfl) (.map (some m)) (by go_simp) ?_
      simp only [Act.put, List.setIfInBounds_toArray, List.set_cons_zero, List.set_cons_succ]
      refine WL.val (by kernel_rfl) (.pointer (some ⟨gx, 0, none⟩)) (by go_simp) ?_
      simp only [Act.put, List.setIfInBounds_toArray, List.set_cons_zero, List.set_cons_succ]
      refine WL.val (by kernel_rfl) (.int .i64 x.kind) (by go_simp) ?_
      simp only [Act.put, List.setIfInBounds_toArray, List.set_cons_zero, List.set_cons_succ]
      refine WL.val (by kernel_rfl) (.slice fa is.length fc) (by go_simp) ?_
      simp only [Act.put, List.setIfInBounds_toArray, List.set_cons_zero, List.set_cons_succ]
      refine WL.val (by kernel_rfl) (.int .i64 (is.length : Int)) (by go_simp) ?_
      simp only [Act.put, List.setIfInBounds_toArray, List.set_cons_zero, List.set_cons_succ]
      refine WL.val (by kernel_rfl) (.int .i64 0) (by go_simp) ?_
      simp only [Act.put, List.setIfInBounds_toArray, List.set_cons_zero, List.set_cons_succ]
      refine WL.nil ?_
      refine hK14 _ _ ?_
      refine wp_block ?_
      refine wp_loop (fun a ws => ∃ (t2 : Nat) (u11 u43 u44 u45 u46 u47 u48 u49 u50 u51 : Value), a = { tmps := #[.pointer (some ⟨p, 0, none⟩), .slice va l.length vc, undef, undef, .int .i64 0, .int .i64 (chk l).1, .int .i64 ((chk l).2 : Int), .map (some m), undef, .pointer (some ⟨gx, 0, none⟩), undef, u11, .tuple #[.int .i64 (chk l).1, .int .i64 ((chk l).2 : Int)], .slice va l.length vc, .tuple #[.int .i64 (chk l).1, .int .i64 ((chk l).2 : Int)], .int .i64 (chk l).1, .int .i64 ((chk l).2 : Int), .int .i64 (chk l).1, .bool false, undef, .map (some m), .pointer (some ⟨p, 0, none⟩), .slice va l.length vc, .int .i64 (l.length : Int), .int .u64 (l.length : Int), .tuple #[], .slice va l.length vc, .int .i64 (l.length : Int), .int .i64 (t : Int), .bool true, .pointer (some ⟨gL, ofL + t * 37, none⟩), .agg (opA x), .pointer (some ⟨p, 0, none⟩), .pointer (some ⟨gx, 0, none⟩), .int .i64 x.kind, .int .u8 x.kind, .tuple #[], .map (some m), .pointer (some ⟨gx, 0, none⟩), .int .i64 x.kind, .slice fa is.length fc, .int .i64 (is.length : Int), .int .i64 (t2 : Int), u43, u44, u45, u46, u47, u48, u49, u50, u51, u52], defers := [] } ∧ t2 ≤ is.length ∧ ∃ vi, OutAt ws p vi (L1 ++ (is.take t2).flatMap fun i => putF i x) ∧ Moved w v vi ∧ Grown w ws (OF p v) ∧ TabAt ws m ∧ FieldsAt ws (.slice fa is.length fc) is ∧ Blk ws gx 79 (opA x)) (fun a _ => is.length - (intOf (a.tmps.getD 42 undef)).toNat) ⟨0, u11, u43, u44, u45, u46, u47, u48, u49, u50, u51, rfl, by omega, vo6, by rw [List.take_zero, List.flatMap_nil, List.append_nil]; exact H6O.out, H6M.out, H6G.out, H6T.out, H6F.out, H6X.out⟩ ?_
      rintro a ws ⟨t2, u11, u43, u44, u45, u46, u47, u48, u49, u50, u51, rfl, ht2, vi, hO2, hM2, hG2, hT2, hF2, hX2⟩
      by_cases htl2 : t2 < is.length
      · have htl2' : (t2 : Int) < (is.length : Int) := by omega
        obtain ⟨gF, hfa, hr2⟩ := hF2.at htl2
        have him : is.getD t2 0 ∈ is := by simp [List.getD_eq_getElem?_getD, htl2]
        have hi4 : is.getD t2 0 < 4 := Hi4.out _ him
        have hi3 : is.getD t2 0 = 3 → 0 ≤ x.op ∧ x.op ≤ 1024 := fun e => H3.out (e ▸ him)
        have hnx2 := fm_next (fun i => putF i x) is t2 htl2 0
        have hbd : (L1 ++ (is.take t2).flatMap fun i => putF i x).length + (putF (is.getD t2 0) x).length ≤ 200000000000000 := by
          have h1 := fm_len (fun i => putF i x) is (t2 + 1)
          rw [hnx2, List.length_append] at h1
          have h2 := Hbd.out
          rw [List.length_append] at h2 ⊢
          omega
        generalize is.getD t2 0 = i at *
        obtain ⟨L2, hL2⟩ : ∃ L2, L2 = L1 ++ (is.take t2).flatMap fun i => putF i x := ⟨_, rfl⟩
        rw [← hL2] at hO2 hbd
        have hwr2 : IntKind.i64.wrap ((t2 : Int) + 1) = (t2 : Int) + 1 := by rw [IntKind.wrap_i64]; have := Hn3.out; omega
        have KO2 := Keep.mk hO2
        have KM2 := Keep.mk hM2
        have KG2 := Keep.mk hG2
        have KT2 := Keep.mk hT2
        have KF2 := Keep.mk hF2
        have KX2 := Keep.mk hX2
        have Kbd := Keep.mk hbd
        have Ki3 := Keep.mk hi3
        have Knx2 := Keep.mk hnx2
        have KL2 := Keep.mk hL2
        clear hO2 hM2 hG2 hT2 hF2 hX2 hbd hi3 hnx2 hL2 him
        rcases (show i = 0 ∨ i = 1 ∨ i = 2 ∨ i = 3 by omega) with rfl | rfl | rfl | rfl
        · refine wp_seq_k fun K15 hK15 => ?_
          refine wp_region_list (WL.out ?_)
          refine WL.val (by kernel_rfl) (.bool true) (by go_simp) ?_
          simp only [Act.put, List.setIfInBounds_toArray, List.set_cons_zero, List.set_cons_succ]
          refine WL.nil ?_
          refine hK15 _ _ ?_
          refine wp_seq_k fun K16 hK16 => ?_
          refine wp_cond_true rfl ?_
          refine wp_skip ?_
          refine hK16 _ _ ?_
          refine wp_seq_k fun K17 hK17 => ?_
          refine wp_block ?_
          refine wp_seq_k fun K18 hK18 => ?_
          refine wp_region_list (WL.out ?_)
          refine WL.val (by kernel_rfl) (.pointer (some ⟨gF, 0 + t2 * 3, none⟩)) (by go_simp) ?_
          simp only [Act.put, List.setIfInBounds_toArray, List.set_cons_zero, List.set_cons_succ]
          refine WL.midA (by kernel_rfl) 129 (.tmp 44) rfl gF (0 + t2 * 3) rfl (fldA 0) _ hr2 Try.underlying129 rfl (Try.size129B 0) ?_
          simp only [Act.put, List.setIfInBounds_toArray, List.set_cons_zero, List.set_cons_succ]
          refine WL.new (by kernel_rfl) 129 rfl _ Try.new129 ?_
          simp only [Act.put, List.setIfInBounds_toArray, List.set_cons_zero, List.set_cons_succ]
          refine WL.storeR (by kernel_rfl) 129 (.tmp 11) (.tmp 45) rfl ws.heap.size (fldA 0) rfl rfl 129 noF (Blk.new ws 129 noF) (Try.size129B 0) (noF_sizes 0) (fldA_one 0) ?_
          have HN := Keep.mk ((Blk.new ws 129 noF).setRow (fldA 0))
          have HGq : Keep (Below ws.heap.size ws ((ws.alloc (.cells noF 129)).setRow ws.heap.size (fldA 0))) := ⟨below_setRow (below_new ws _) (Nat.le_refl _) _⟩
          generalize (ws.alloc (.cells noF 129)).setRow ws.heap.size (fldA 0) = wy at *
          have cf : wy.cell? ⟨ws.heap.size, 1, none⟩ = some (fnv 100) := HN.out.c 1 rfl
          unfold fnv at cf
          have HOy := Keep.mk (KO2.out.below HGq.out)
          have HXy := Keep.mk (KX2.out.below HGq.out KX2.out.lt)
          simp only [Act.put]
          refine WL.nil ?_
          refine hK18 _ _ ?_
          refine wp_region_list (WL.out ?_)
          refine WL.val (by kernel_rfl) (.pointer (some ⟨ws.heap.size, 1, none⟩)) (by go_simp) ?_
          simp only [Act.put, List.setIfInBounds_toArray, List.set_cons_zero, List.set_cons_succ]
          refine WL.val (by kernel_rfl) (.func (.func 100) #[] #[]) (by go_simp) ?_
          simp only [Act.put, List.setIfInBounds_toArray, List.set_cons_zero, List.set_cons_succ]
          refine WL.val (by kernel_rfl) (.pointer (some ⟨p, 0, none⟩)) (by go_simp) ?_
          simp only [Act.put, List.setIfInBounds_toArray, List.set_cons_zero, List.set_cons_succ]
          refine WL.row (by kernel_rfl) 79 (.tmp 9) rfl gx rfl 79 (opA x) _ HXy.out Try.underlying79 rfl (Try.size79B x) ?_
          simp only [Act.put, List.setIfInBounds_toArray, List.set_cons_zero, List.set_cons_succ]
          refine WL.callV (by kernel_rfl) 100 (.tmp 47) _ _ rfl rfl Try.in100 #[ptr p, .agg (opA x)] (by simp [Act.eval]) ?_
          refine (put0_any p vi L2 x wy HOy.out Hx.out Kbd.out).mono ?_
          rintro e w9 hp
          obtain ⟨rfl, v9, hO9, hM9, hG9⟩ := hp
          refine ⟨_, rfl, ?_⟩
          have HGs : Keep (Grown ws w9 (OF p vi)) := ⟨(Grown.below HGq.out).trans hG9⟩
          have HM9 := Keep.mk hM9
          have HO9 := Keep.mk hO9
          clear hG9 hM9 hO9 cf
          simp only [Act.put, List.setIfInBounds_toArray, List.set_cons_zero, List.set_cons_succ]
          refine WL.nil ?_
          refine hK17 _ _ ?_
          refine wp_region_list (WL.out ?_)
          refine WL.val (by kernel_rfl) (.int .i64 ((t2 : Int) + 1)) (by go_simp) ?_
          simp only [Act.put, List.setIfInBounds_toArray, List.set_cons_zero, List.set_cons_succ]
          refine WL.val (by kernel_rfl) (.int .i64 ((t2 : Int) + 1)) (by go_simp) ?_
          simp only [Act.put, List.setIfInBounds_toArray, List.set_cons_zero, List.set_cons_succ]
          refine WL.nil ?_
          refine ⟨⟨t2 + 1, .pointer (some ⟨ws.heap.size, 0, none⟩), .bool true, .pointer (some ⟨gF, 0 + t2 * 3, none⟩), .agg (fldA 0), .pointer (some ⟨ws.heap.size, 1, none⟩), .func (.func 100) #[] #[], .pointer (some ⟨p, 0, none⟩), .agg (opA x), .tuple #[], .int .i64 ((t2 : Int) + 1), rfl, by omega, v9, by rw [Knx2.out, ← List.append_assoc, ← KL2.out]; exact HO9.out, KM2.out.trans KG2.out.size (HM9.out.mono HGq.out.size), KG2.out.next HGs.out fun k hk ho => ?_, KO2.out.tab KT2.out HGs.out, KO2.out.fields KF2.out HGs.out, KO2.out.keeps KX2.out (by decide) (by decide) HGs.out⟩, ?_⟩
          · rcases ho with rfl | ho
            · exact .inl rfl
            · exact .inr (KM2.out.old hk ho)
          · simp only [intOf]; show is.length - ((t2 : Int) + 1).toNat < is.length - ((t2 : Int)).toNat; omega
        · refine wp_seq_k fun K19 hK19 => ?_
          refine wp_region_list (WL.out ?_)
          refine WL.val (by kernel_rfl) (.bool true) (by go_simp) ?_
          simp only [Act.put, List.setIfInBounds_toArray, List.set_cons_zero, List.set_cons_succ]
          refine WL.nil ?_
          refine hK19 _ _ ?_
          refine wp_seq_k fun K20 hK20 => ?_
          refine wp_cond_true rfl ?_
          refine wp_skip ?_
          refine hK20 _ _ ?_
          refine wp_seq_k fun K21 hK21 => ?_
          refine wp_block ?_
          refine wp_seq_k fun K22 hK22 => ?_
          refine wp_region_list (WL.out ?_)
          refine WL.val (by kernel_rfl) (.pointer (some ⟨gF, 0 + t2 * 3, none⟩)) (by go_simp) ?_
          simp only [Act.put, List.setIfInBounds_toArray, List.set_cons_zero, List.set_cons_succ]
          refine WL.midA (by kernel_rfl) 129 (.tmp 44) rfl gF (0 + t2 * 3) rfl (fldA 1) _ hr2 Try.underlying129 rfl (Try.size129B 1) ?_
          simp only [Act.put, List.setIfInBounds_toArray, List.set_cons_zero, List.set_cons_succ]
          refine WL.new (by kernel_rfl) 129 rfl _ Try.new129 ?_
          simp only [Act.put, List.setIfInBounds_toArray, List.set_cons_zero, List.set_cons_succ]
          refine WL.storeR (by kernel_rfl) 129 (.tmp 11) (.tmp 45) rfl ws.heap.size (fldA 1) rfl rfl 129 noF (Blk.new ws 129 noF) (Try.size129B 1) (noF_sizes 1) (fldA_one 1) ?_
          have HN := Keep.mk ((Blk.new ws 129 noF).setRow (fldA 1))
          have HGq : Keep (Below ws.heap.size ws ((ws.alloc (.cells noF 129)).setRow ws.heap.size (fldA 1))) := ⟨below_setRow (below_new ws _) (Nat.le_refl _) _⟩
          generalize (ws.alloc (.cells noF 129)).setRow ws.heap.size (fldA 1) = wy at *
          have cf : wy.cell? ⟨ws.heap.size, 1, none⟩ = some (fnv 105) := HN.out.c 1 rfl
          unfold fnv at cf
          have HOy := Keep.mk (KO2.out.below HGq.out)
          have HXy := Keep.mk (KX2.out.below HGq.out KX2.out.lt)
          simp only [Act.put]
          refine WL.nil ?_
          refine hK22 _ _ ?_
          refine wp_region_list (WL.out ?_)
          refine WL.val (by kernel_rfl) (.pointer (some ⟨ws.heap.size, 1, none⟩)) (by go_simp) ?_
          simp only [Act.put, List.setIfInBounds_toArray, List.set_cons_zero, List.set_cons_succ]
          refine WL.val (by kernel_rfl) (.func (.func 105) #[] #[]) (by go_simp) ?_
          simp only [Act.put, List.setIfInBounds_toArray, List.set_cons_zero, List.set_cons_succ]
          refine WL.val (by kernel_rfl) (.pointer (some ⟨p, 0, none⟩)) (by go_simp) ?_
          simp only [Act.put, List.setIfInBounds_toArray, List.set_cons_zero, List.set_cons_succ]
          refine WL.row (by kernel_rfl) 79 (.tmp 9) rfl gx rfl 79 (opA x) _ HXy.out Try.underlying79 rfl (Try.size79B x) ?_
          simp only [Act.put, List.setIfInBounds_toArray, List.set_cons_zero, List.set_cons_succ]
          refine WL.callV (by kernel_rfl) 105 (.tmp 47) _ _ rfl rfl Try.in105 #[ptr p, .agg (opA x)] (by simp [Act.eval]) ?_
          refine (put1_any p vi L2 x wy HOy.out Hx.out Kbd.out).mono ?_
          rintro e w9 hp
          obtain ⟨rfl, v9, hO9, hM9, hG9⟩ := hp
          refine ⟨_, rfl, ?_⟩
          have HGs : Keep (Grown ws w9 (OF p vi)) := ⟨(Grown.below HGq.out).trans hG9⟩
          have HM9 := Keep.mk hM9
          have HO9 := Keep.mk hO9
          clear hG9 hM9 hO9 cf
          simp only [Act.put, List.setIfInBounds_toArray, List.set_cons_zero, List.set_cons_succ]
          refine WL.nil ?_
          refine hK21 _ _ ?_
          refine wp_region_list (WL.out ?_)
          refine WL.val (by kernel_rfl) (.int .i64 ((t2 : Int) + 1)) (by go_simp) ?_
          simp only [Act.put, List.setIfInBounds_toArray, List.set_cons_zero, List.set_cons_succ]
          refine WL.val (by kernel_rfl) (.int .i64 ((t2 : Int) + 1)) (by go_simp) ?_
          simp only [Act.put, List.setIfInBounds_toArray, List.set_cons_zero, List.set_cons_succ]
          refine WL.nil ?_
          refine ⟨⟨t2 + 1, .pointer (some ⟨ws.heap.size, 0, none⟩), .bool true, .pointer (some ⟨gF, 0 + t2 * 3, none⟩), .agg (fldA 1), .pointer (some ⟨ws.heap.size, 1, none⟩), .func (.func 105) #[] #[], .pointer (some ⟨p, 0, none⟩), .agg (opA x), .tuple #[], .int .i64 ((t2 : Int) + 1), rfl, by omega, v9, by rw [Knx2.out, ← List.append_assoc, ← KL2.out]; exact HO9.out, KM2.out.trans KG2.out.size (HM9.out.mono HGq.out.size), KG2.out.next HGs.out fun k hk ho => ?_, KO2.out.tab KT2.out HGs.out, KO2.out.fields KF2.out HGs.out, KO2.out.keeps KX2.out (by decide) (by decide) HGs.out⟩, ?_⟩
          · rcases ho with rfl | ho
            · exact .inl rfl
            · exact .inr (KM2.out.old hk ho)
          · simp only [intOf]; show is.length - ((t2 : Int) + 1).toNat < is.length - ((t2 : Int)).toNat; omega
        · refine wp_seq_k fun K23 hK23 => ?_
          refine wp_region_list (WL.out ?_)
          refine WL.val (by kernel_rfl) (.bool true) (by go_simp) ?_
          simp only [Act.put, List.setIfInBounds_toArray, List.set_cons_zero, List.set_cons_succ]
          refine WL.nil ?_
          refine hK23 _ _ ?_
          refine wp_seq_k fun K24 hK24 => ?_
          refine wp_cond_true rfl ?_
          refine wp_skip ?_
          refine hK24 _ _ ?_
          refine wp_seq_k fun K25 hK25 => ?_
          refine wp_block ?_
          refine wp_seq_k fun K26 hK26 => ?_
          refine wp_region_list (WL.out ?_)
          refine WL.val (by kernel_rfl) (.pointer (some ⟨gF, 0 + t2 * 3, none⟩)) (by go_simp) ?_
          simp only [Act.put, List.setIfInBounds_toArray, List.set_cons_zero, List.set_cons_succ]
          refine WL.midA (by kernel_rfl) 129 (.tmp 44) rfl gF (0 + t2 * 3) rfl (fldA 2) _ hr2 Try.underlying129 rfl (Try.size129B 2) ?_
          simp only [Act.put, List.setIfInBounds_toArray, List.set_cons_zero, List.set_cons_succ]
          refine WL.new (by kernel_rfl) 129 rfl _ Try.new129 ?_
          simp only [Act.put, List.setIfInBounds_toArray, List.set_cons_zero, List.set_cons_succ]
          refine WL.storeR (by kernel_rfl) 129 (.tmp 11) (.tmp 45) rfl ws.heap.size (fldA 2) rfl rfl 129 noF (Blk.new ws 129 noF) (Try.size129B 2) (noF_sizes 2) (fldA_one 2) ?_
          have HN := Keep.mk ((Blk.new ws 129 noF).setRow (fldA 2))
          have HGq : Keep (Below ws.heap.size ws ((ws.alloc (.cells noF 129)).setRow ws.heap.size (fldA 2))) := ⟨below_setRow (below_new ws _) (Nat.le_refl _) _⟩
          generalize (ws.alloc (.cells noF 129)).setRow ws.heap.size (fldA 2) = wy at *
          have cf : wy.cell? ⟨ws.heap.size, 1, none⟩ = some (fnv 108) := HN.out.c 1 rfl
          unfold fnv at cf
          have HOy := Keep.mk (KO2.out.below HGq.out)
          have HXy := Keep.mk (KX2.out.below HGq.out KX2.out.lt)
          simp only [Act.put]
          refine WL.nil ?_
          refine hK26 _ _ ?_
          refine wp_region_list (WL.out ?_)
          refine WL.val (by kernel_rfl) (.pointer (some ⟨ws.heap.size, 1, none⟩)) (by go_simp) ?_
          simp only [Act.put, List.setIfInBounds_toArray, List.set_cons_zero, List.set_cons_succ]
          refine WL.val (by kernel_rfl) (.func (.func 108) #[] #[]) (by go_simp) ?_
          simp only [Act.put, List.setIfInBounds_toArray, List.set_cons_zero, List.set_cons_succ]
          refine WL.val (by kernel_rfl) (.pointer (some ⟨p, 0, none⟩)) (by go_simp) ?_
          simp only [Act.put, List.setIfInBounds_toArray, List.set_cons_zero, List.set_cons_succ]
          refine WL.row (by kernel_rfl) 79 (.tmp 9) rfl gx rfl 79 (opA x) _ HXy.out Try.underlying79 rfl (Try.size79B x) ?_
          simp only [Act.put, List.setIfInBounds_toArray, List.set_cons_zero, List.set_cons_succ]
          refine WL.callV (by kernel_rfl) 108 (.tmp 47) _ _ rfl rfl Try.in108 #[ptr p, .agg (opA x)] (by simp [Act.eval]) ?_
          refine (put2_any p vi L2 x wy HOy.out Hx.out Kbd.out).mono ?_
          rintro e w9 hp
          obtain ⟨rfl, v9, hO9, hM9, hG9⟩ := hp
          refine ⟨_, rfl, ?_⟩
          have HGs : Keep (Grown ws w9 (OF p vi)) := ⟨(Grown.below HGq.out).trans hG9⟩
          have HM9 := Keep.mk hM9
          have HO9 := Keep.mk hO9
          clear hG9 hM9 hO9 cf
          simp only [Act.put, List.setIfInBounds_toArray, List.set_cons_zero, List.set_cons_succ]
          refine WL.nil ?_
          refine hK25 _ _ ?_
          refine wp_region_list (WL.out ?_)
          refine WL.val (by kernel_rfl) (.int .i64 ((t2 : Int) + 1)) (by go_simp) ?_
          simp only [Act.put, List.setIfInBounds_toArray, List.set_cons_zero, List.set_cons_succ]
          refine WL.val (by kernel_rfl) (.int .i64 ((t2 : Int) + 1)) (by go_simp) ?_
          simp only [Act.put, List.setIfInBounds_toArray, List.set_cons_zero, List.set_cons_succ]
          refine WL.nil ?_
          refine ⟨⟨t2 + 1, .pointer (some ⟨ws.heap.size, 0, none⟩), .bool true, .pointer (some ⟨gF, 0 + t2 * 3, none⟩), .agg (fldA 2), .pointer (some ⟨ws.heap.size, 1, none⟩), .func (.func 108) #[] #[], .pointer (some ⟨p, 0, none⟩), .agg (opA x), .tuple #[], .int .i64 ((t2 : Int) + 1), rfl, by omega, v9, by rw [Knx2.out, ← List.append_assoc, ← KL2.out]; exact HO9.out, KM2.out.trans KG2.out.size (HM9.out.mono HGq.out.size), KG2.out.next HGs.out fun k hk ho => ?_, KO2.out.tab KT2.out HGs.out, KO2.out.fields KF2.out HGs.out, KO2.out.keeps KX2.out (by decide) (by decide) HGs.out⟩, ?_⟩
          · rcases ho with rfl | ho
            · exact .inl rfl
            · exact .inr (KM2.out.old hk ho)
          · simp only [intOf]; show is.length - ((t2 : Int) + 1).toNat < is.length - ((t2 : Int)).toNat; omega
        · refine wp_seq_k fun K27 hK27 => ?_
          refine wp_region_list (WL.out ?_)
          refine WL.val (by kernel_rfl) (.bool true) (by go_simp) ?_
          simp only [Act.put, List.setIfInBounds_toArray, List.set_cons_zero, List.set_cons_succ]
          refine WL.nil ?_
          refine hK27 _ _ ?_
          refine wp_seq_k fun K28 hK28 => ?_
          refine wp_cond_true rfl ?_
          refine wp_skip ?_
          refine hK28 _ _ ?_
          refine wp_seq_k fun K29 hK29 => ?_
          refine wp_block ?_
          refine wp_seq_k fun K30 hK30 => ?_
          refine wp_region_list (WL.out ?_)
          refine WL.val (by kernel_rfl) (.pointer (some ⟨gF, 0 + t2 * 3, none⟩)) (by go_simp) ?_
          simp only [Act.put, List.setIfInBounds_toArray, List.set_cons_zero, List.set_cons_succ]
          refine WL.midA (by kernel_rfl) 129 (.tmp 44) rfl gF (0 + t2 * 3) rfl (fldA 3) _ hr2 Try.underlying129 rfl (Try.size129B 3) ?_
          simp only [Act.put, List.setIfInBounds_toArray, List.set_cons_zero, List.set_cons_succ]
          refine WL.new (by kernel_rfl) 129 rfl _ Try.new129 ?_
          simp only [Act.put, List.setIfInBounds_toArray, List.set_cons_zero, List.set_cons_succ]
          refine WL.storeR (by kernel_rfl) 129 (.tmp 11) (.tmp 45) rfl ws.heap.size (fldA 3) rfl rfl 129 noF (Blk.new ws 129 noF) (Try.size129B 3) (noF_sizes 3) (fldA_one 3) ?_
          have HN := Keep.mk ((Blk.new ws 129 noF).setRow (fldA 3))
          have HGq : Keep (Below ws.heap.size ws ((ws.alloc (.cells noF 129)).setRow ws.heap.size (fldA 3))) := ⟨below_setRow (below_new ws _) (Nat.le_refl _) _⟩
          generalize (ws.alloc (.cells noF 129)).setRow ws.heap.size (fldA 3) = wy at *
          have cf : wy.cell? ⟨ws.heap.size, 1, none⟩ = some (fnv 113) := HN.out.c 1 rfl
          unfold fnv at cf
          have HOy := Keep.mk (KO2.out.below HGq.out)
          have HXy := Keep.mk (KX2.out.below HGq.out KX2.out.lt)
          simp only [Act.put]
          refine WL.nil ?_
          refine hK30 _ _ ?_
          refine wp_region_list (WL.out ?_)
          refine WL.val (by kernel_rfl) (.pointer (some ⟨ws.heap.size, 1, none⟩)) (by go_simp) ?_
          simp only [Act.put, List.setIfInBounds_toArray, List.set_cons_zero, List.set_cons_succ]
          refine WL.val (by kernel_rfl) (.func (.func 113) #[] #[]) (by go_simp) ?_
          simp only [Act.put, List.setIfInBounds_toArray, List.set_cons_zero, List.set_cons_succ]
          refine WL.val (by kernel_rfl) (.pointer (some ⟨p, 0, none⟩)) (by go_simp) ?_
          simp only [Act.put, List.setIfInBounds_toArray, List.set_cons_zero, List.set_cons_succ]
          refine WL.row (by kernel_rfl) 79 (.tmp 9) rfl gx rfl 79 (opA x) _ HXy.out Try.underlying79 rfl (Try.size79B x) ?_
          simp only [Act.put, List.setIfInBounds_toArray, List.set_cons_zero, List.set_cons_succ]
          refine WL.callV (by kernel_rfl) 113 (.tmp 47) _ _ rfl rfl Try.in113 #[ptr p, .agg (opA x)] (by simp [Act.eval]) ?_
          refine (put3_any p vi L2 x wy HOy.out Hx.out (Ki3.out rfl).1 (Ki3.out rfl).2 Kbd.out).mono ?_
          rintro e w9 hp
          obtain ⟨rfl, v9, hO9, hM9, hG9⟩ := hp
          refine ⟨_, rfl, ?_⟩
          have HGs : Keep (Grown ws w9 (OF p vi)) := ⟨(Grown.below HGq.out).trans hG9⟩
          have HM9 := Keep.mk hM9
          have HO9 := Keep.mk hO9
          clear hG9 hM9 hO9 cf
          simp only [Act.put, List.setIfInBounds_toArray, List.set_cons_zero, List.set_cons_succ]
          refine WL.nil ?_
          refine hK29 _ _ ?_
          refine wp_region_list (WL.out ?_)
          refine WL.val (by kernel_rfl) (.int .i64 ((t2 : Int) + 1)) (by go_simp) ?_
          simp only [Act.put, List.setIfInBounds_toArray, List.set_cons_zero, List.set_cons_succ]
          refine WL.val (by kernel_rfl) (.int .i64 ((t2 : Int) + 1)) (by go_simp) ?_
          simp only [Act.put, List.setIfInBounds_toArray, List.set_cons_zero, List.set_cons_succ]
          refine WL.nil ?_
          refine ⟨⟨t2 + 1, .pointer (some ⟨ws.heap.size, 0, none⟩), .bool true, .pointer (some ⟨gF, 0 + t2 * 3, none⟩), .agg (fldA 3), .pointer (some ⟨ws.heap.size, 1, none⟩), .func (.func 113) #[] #[], .pointer (some ⟨p, 0, none⟩), .agg (opA x), .tuple #[], .int .i64 ((t2 : Int) + 1), rfl, by omega, v9, by rw [Knx2.out, ← List.append_assoc, ← KL2.out]; exact HO9.out, KM2.out.trans KG2.out.size (HM9.out.mono HGq.out.size), KG2.out.next HGs.out fun k hk ho => ?_, KO2.out.tab KT2.out HGs.out, KO2.out.fields KF2.out HGs.out, KO2.out.keeps KX2.out (by decide) (by decide) HGs.out⟩, ?_⟩
          · rcases ho with rfl | ho
            · exact .inl rfl
            · exact .inr (KM2.out.old hk ho)
          · simp only [intOf]; show is.length - ((t2 : Int) + 1).toNat < is.length - ((t2 : Int)).toNat; omega
      · have ht2e : t2 = is.length := by omega
        have htl2' : ¬ (t2 : Int) < (is.length : Int) := by omega
        rw [ht2e, List.take_length] at hO2
        clear ht2e
        have KO2 := Keep.mk hO2
        have KM2 := Keep.mk hM2
        have KG2 := Keep.mk hG2
        have KT2 := Keep.mk hT2
        clear hO2 hM2 hG2 hT2 hF2 hX2
        refine wp_seq_k fun K31 hK31 => ?_
        refine wp_region_list (WL.out ?_)
        refine WL.val (by kernel_rfl) (.bool false) (by go_simp) ?_
        simp only [Act.put, List.setIfInBounds_toArray, List.set_cons_zero, List.set_cons_succ]
        refine WL.nil ?_
        refine hK31 _ _ ?_
        refine wp_seq_k fun K32 hK32 => ?_
        refine wp_cond_false rfl ?_
        refine wp_exit ?_
        refine hK11 _ _ ?_
        refine wp_region_list (WL.out ?_)
        refine WL.val (by kernel_rfl) (.int .i64 ((t : Int) + 1)) (by go_simp) ?_
        simp only [Act.put, List.setIfInBounds_toArray, List.set_cons_zero, List.set_cons_succ]
        refine WL.val (by kernel_rfl) (.int .i64 ((t : Int) + 1)) (by go_simp) ?_
        simp only [Act.put, List.setIfInBounds_toArray, List.set_cons_zero, List.set_cons_succ]
        refine WL.nil ?_
        rw [Jfull.out] at KO2
        refine ⟨⟨t + 1, .pointer (some ⟨gx, 0, none⟩), u11, .bool true, .pointer (some ⟨gL, ofL + t * 37, none⟩), .agg (opA x), .pointer (some ⟨p, 0, none⟩), .pointer (some ⟨gx, 0, none⟩), .int .i64 x.kind, .int .u8 x.kind, .tuple #[], .map (some m), .pointer (some ⟨gx, 0, none⟩), .int .i64 x.kind, .slice fa is.length fc, .int .i64 (is.length : Int), .int .i64 (t2 : Int), .bool false, u44, u45, u46, u47, u48, u49, u50, u51, .int .i64 ((t : Int) + 1), rfl, by omega, vi, KO2.out, KM2.out, KG2.out, KT2.out⟩, ?_⟩
        simp only [intOf]; show l.length - ((t : Int) + 1).toNat < l.length - ((t : Int)).toNat; omega
    · obtain rfl : t = l.length := by omega
      have htl' : ¬ (l.length : Int) < (l.length : Int) := by omega
      rw [List.take_length, List.append_assoc] at hO
      refine wp_seq_k fun K33 hK33 => ?_
      refine wp_region_list (WL.out ?_)
      refine WL.val (by kernel_rfl) (.bool false) (by go_simp) ?_
      simp only [Act.put, List.setIfInBounds_toArray, List.set_cons_zero, List.set_cons_succ]
      refine WL.nil ?_
      refine hK33 _ _ ?_
      refine wp_seq_k fun K34 hK34 => ?_
      refine wp_cond_false rfl ?_
      refine wp_exit ?_
      refine hK7 _ _ ?_
      refine wp_seq_k fun K35 hK35 => ?_
      refine wp_region_list (WL.out ?_)
      refine WL.val (by kernel_rfl) (.int .i64 0) (by go_simp) ?_
      simp only [Act.put, List.setIfInBounds_toArray, List.set_cons_zero, List.set_cons_succ]
      refine WL.nil ?_
      refine hK35 _ _ ?_
      refine wp_ret ?_
      go_ret
      exact ⟨by rw [HC0.out]; rfl, vo, by rw [if_pos HC0.out]; exact hO, hM, hG⟩
  · clear h hl hok hb hsep hbb
    refine wp_seq_k fun K1 hK1 => ?_
    refine wp_region_list (WL.out ?_)
    refine WL.val (by kernel_rfl) (.int .i64 0) (by go_simp) ?_
    simp only [Act.put, List.setIfInBounds_toArray, List.set_cons_zero, List.set_cons_succ]
    refine WL.nil ?_
    refine hK1 _ _ ?_
    refine wp_seq_k fun K2 hK2 => ?_
    refine wp_seq_k fun K3 hK3 => ?_
    refine wp_region_list (WL.out ?_)
    refine WL.val (by kernel_rfl) (.slice va l.length vc) (by go_simp) ?_
    simp only [Act.put, List.setIfInBounds_toArray, List.set_cons_zero, List.set_cons_succ]
    refine WL.callF (by kernel_rfl) 30 _ _ rfl Try.in30 #[.slice va l.length vc] (by simp [Act.eval]) ?_
    refine (check_any _ l w HL.out Hok.out Hlb.out).mono ?_
    rintro e w1 ⟨rfl, h1⟩
    refine ⟨_, rfl, ?_⟩
    have HB1 := Keep.mk h1
    clear h1
    simp only [Act.put, List.setIfInBounds_toArray, List.set_cons_zero, List.set_cons_succ]
    refine WL.val (by kernel_rfl) (.tuple #[.int .i64 (chk l).1, .int .i64 ((chk l).2 : Int)]) (by go_simp) ?_
    simp only [Act.put, List.setIfInBounds_toArray, List.set_cons_zero, List.set_cons_succ]
    refine WL.val (by kernel_rfl) (.int .i64 (chk l).1) (by go_simp) ?_
    simp only [Act.put, List.setIfInBounds_toArray, List.set_cons_zero, List.set_cons_succ]
    refine WL.val (by kernel_rfl) (.int .i64 ((chk l).2 : Int)) (by go_simp) ?_
    simp only [Act.put, List.setIfInBounds_toArray, List.set_cons_zero, List.set_cons_succ]
    refine WL.val (by kernel_rfl) (.int .i64 (chk l).1) (by go_simp) ?_
    simp only [Act.put, List.setIfInBounds_toArray, List.set_cons_zero, List.set_cons_succ]
    refine WL.val (by kernel_rfl) (.int .i64 ((chk l).2 : Int)) (by go_simp) ?_
    simp only [Act.put, List.setIfInBounds_toArray, List.set_cons_zero, List.set_cons_succ]
    refine WL.nil ?_
    refine hK3 _ _ ?_
    refine wp_seq_k fun K4 hK4 => ?_
    refine wp_region_list (WL.out ?_)
    refine WL.val (by kernel_rfl) (.int .i64 (chk l).1) (by go_simp) ?_
    simp only [Act.put, List.setIfInBounds_toArray, List.set_cons_zero, List.set_cons_succ]
    refine WL.val (by kernel_rfl) (.bool true) (by go_simp) ?_
    simp only [Act.put, List.setIfInBounds_toArray, List.set_cons_zero, List.set_cons_succ]
    refine WL.nil ?_
    refine hK4 _ _ ?_
    refine wp_cond_true rfl ?_
    refine wp_seq_k fun K5 hK5 => ?_
    refine wp_region_list (WL.out ?_)
    refine WL.val (by kernel_rfl) (.int .i64 (chk l).1) (by go_simp) ?_
    simp only [Act.put, List.setIfInBounds_toArray, List.set_cons_zero, List.set_cons_succ]
    refine WL.val (by kernel_rfl) (.int .i64 (chk l).1) (by go_simp) ?_
    simp only [Act.put, List.setIfInBounds_toArray, List.set_cons_zero, List.set_cons_succ]
    refine WL.nil ?_
    refine hK5 _ _ ?_
    refine wp_ret ?_
    go_ret
    exact ⟨rfl, v, by rw [if_neg hC]; exact HO.out.below HB1.out, Moved.refl _ _, Grown.below HB1.out⟩

theorem put_any (p : Nat) (v : Value) (L0 : List Int) (vl : Value) (l : List OpV) (w : World) (h : OutAt w p v L0) (hl : OpsAt w vl l) (hok : ∀ x ∈ l, OpOk x) (hb : l.length ≤ 4398046511104)
    (hsep : ∀ k, vl.ownBlock = some k → ¬ OF p v k) (hbb : (chk l).1 = 0 → L0.length + (formL l).length ≤ 200000000000000) :
    Calls Try.prog 46 #[ptr p, vl] w fun e w' => e = .returned (.int .i64 (chk l).1) ∧ ∃ v', OutAt w' p v' (if (chk l).1 = 0 then L0 ++ formL l else L0) ∧ Moved w v v' ∧ Grown w w' (OF p v) :=
  put_anyE p v L0 vl l w h hl hok hb (fun _ => hsep) hbb
def flatO (l : List OpV) : List Value := l.flatMap opL
theorem flatO_len (l : List OpV) : (flatO l).length = l.length * 37 := by
  induction l with
  | nil => rfl
  | cons x l ih =>
    simp only [flatO, List.flatMap_cons, List.length_append, opL_len, List.length_cons] at ih ⊢
    rw [ih]; omega
theorem flatO_drop (l : List OpV) : ∀ t, (flatO l).drop (t * 37) = flatO (l.drop t) := by
  induction l with
  | nil => intro t; simp [flatO]
  | cons x l ih =>
    intro t
    cases t with
    | zero => simp
    | succ t =>
      have := ih t
      simp only [flatO, List.flatMap_cons, List.drop_succ_cons] at this ⊢
      rw [← this, show (t + 1) * 37 = 37 + t * 37 by omega, ← List.drop_drop, List.drop_left' (opL_len x)]
theorem flatO_get (l : List OpV) (t : Nat) (x : OpV) (ht : l[t]? = some x) (j : Nat) (v : Value) (hv : (opL x)[j]? = some v) : (flatO l)[t * 37 + j]? = some v := by
  rw [← List.getElem?_drop, flatO_drop]
  obtain ⟨h1, h2⟩ := List.getElem?_eq_some_iff.1 ht
  rw [List.drop_eq_getElem_cons h1, h2]
  simp only [flatO, List.flatMap_cons]
  rw [List.getElem?_append_left (List.getElem?_eq_some_iff.1 hv).1]
  exact hv
theorem ops_block {w : World} {g : Nat} {T : TypeId} {l : List OpV} {cs : Array Value} {cap : Nat} (h : Blk w g T cs) (hc : cs.toList.take (l.length * 37) = flatO l) (hcap : l.length ≤ cap) : OpsAt w (.slice (some ⟨g, 0, none⟩) l.length cap) l := by
  refine .inr ⟨g, 0, cap, rfl, hcap, fun i x hx j v hv => ?_⟩
  rw [Nat.zero_add, h.cell]
  have := flatO_get l i x hx j v hv
  rw [← hc, List.getElem?_take] at this
  split at this
  · simpa using this
  · cases this
theorem ops_new (w : World) (l : List OpV) : OpsAt (w.alloc (.cells (flatO l).toArray 79)) (.slice (some ⟨w.heap.size, 0, none⟩) l.length l.length) l :=
  ops_block (Blk.new w 79 _) (by rw [List.take_of_length_le (by rw [flatO_len]; omega)]) (Nat.le_refl _)
def xA : OpV := ⟨1, { data := #[107] }, { data := #[118] }, 0, z32, 0⟩
def xB : OpV := ⟨10, { data := #[] }, { data := #[] }, 0, z32, 0⟩
def xC : OpV := ⟨6, { data := #[107] }, { data := #[] }, -1, z32, 0⟩
theorem z32_len : z32.length = 32 := by decide
theorem z32_byts : Byts z32 := by unfold z32; intro c hc; rw [List.eq_of_mem_replicate hc]; decide
theorem xA_ok : OpOk xA := ⟨z32_len, z32_byts, by decide, by decide, by decide, by decide, by decide, by decide, by decide, by decide⟩
theorem xB_ok : OpOk xB := ⟨z32_len, z32_byts, by decide, by decide, by decide, by decide, by decide, by decide, by decide, by decide⟩
theorem xC_ok : OpOk xC := ⟨z32_len, z32_byts, by decide, by decide, by decide, by decide, by decide, by decide, by decide, by decide⟩
theorem bA : Try.prog.built 79 [(0, .int .i64 1), (1, .string { data := #[107] }), (2, .string { data := #[118] })] = some (opA xA) := by kernel_rfl
theorem bB : Try.prog.built 79 [(0, .int .i64 10)] = some (opA xB) := by kernel_rfl
theorem bC : Try.prog.built 79 [(0, .int .i64 6), (1, .string { data := #[107] }), (3, .int .i64 (-1))] = some (opA xC) := by kernel_rfl
theorem sAB (w : World) : (Instr.buildSlice 25 2 #[(0, .agg (opA xA)), (1, .agg (opA xB))]).run Try.prog w = .ok (.slice (some ⟨w.heap.size, 0, none⟩) 2 2) (w.alloc (.cells (flatO [xA, xB]).toArray 79)) := by kernel_rfl
theorem sC (w : World) : (Instr.buildSlice 25 1 #[(0, .agg (opA xC))]).run Try.prog w = .ok (.slice (some ⟨w.heap.size, 0, none⟩) 1 1) (w.alloc (.cells (flatO [xC]).toArray 79)) := by kernel_rfl
theorem cAB : chk [xA, xB] = (40, 1) := by kernel_rfl
theorem cC : chk [xC] = (0, 0) := by kernel_rfl
theorem fC : formL [xC] = [1, 6, 1, 107, 1] := by kernel_rfl
theorem stC : strOfNums [1, 6, 1, 107, 1] = { data := #[1, 6, 1, 107, 1] } := by kernel_rfl
def getA (L : List Int) (ah : List OpV) (x : OpV) (a : Nat) : Int × Nat × OpV :=
  if (fstM (L.drop a) 1024).2.2 ≠ 0 then ((fstM (L.drop a) 1024).2.2, a + (fstM (L.drop a) 1024).2.1.toNat, x)
  else if (fstM (L.drop a) 1024).1 = 0 then
    (if mayAt ah { x with op := 0 } = true then (0, a + (fstM (L.drop a) 1024).2.1.toNat, { x with op := 0 }) else (42, a, x))
  else if nextW (L.drop (a + (fstM (L.drop a) 1024).2.1.toNat)) 32 ≠ 0 then (nextW (L.drop (a + (fstM (L.drop a) 1024).2.1.toNat)) 32, a + (fstM (L.drop a) 1024).2.1.toNat + nextN (L.drop (a + (fstM (L.drop a) 1024).2.1.toNat)) 32, x)
  else (if mayAt ah { x with op := (fstM (L.drop a) 1024).1, node := (L.drop (a + (fstM (L.drop a) 1024).2.1.toNat)).take 32 } = true then (0, a + (fstM (L.drop a) 1024).2.1.toNat + 32, { x with op := (fstM (L.drop a) 1024).1, node := (L.drop (a + (fstM (L.drop a) 1024).2.1.toNat)).take 32 }) else (42, a, x))
def getF (L : List Int) (ah : List OpV) (i : Nat) (x : OpV) (a : Nat) : Int × Nat × OpV :=
  if i = 0 then ((byt (L.drop a) 65536).1, a + (byt (L.drop a) 65536).2.1, { x with key := strOfNums (byt (L.drop a) 65536).2.2 })
  else if i = 1 then ((byt (L.drop a) 65536).1, a + (byt (L.drop a) 65536).2.1, { x with text := strOfNums (byt (L.drop a) 65536).2.2 })
  else if i = 2 then ((fstM (L.drop a) 18446744073709551615).2.2, a + (fstM (L.drop a) 18446744073709551615).2.1.toNat, { x with n := if (fstM (L.drop a) 18446744073709551615).2.2 = 0 then zag (fstM (L.drop a) 18446744073709551615).1 else 0 })
  else getA L ah x a
def GetPost (p g : Nat) (s : ByteArray) (R : Int × Nat × OpV) (w : World) (e : Ending) (w' : World) : Prop :=
  ∃ er, e = .returned er ∧ (Grown w w' fun k => k = p ∨ k = g) ∧
    ((R.1 = 0 ∧ er = .nilIface ∧ InAt w' p s R.2.1 none ∧ Blk w' g 79 (opA R.2.2) ∧ OpOk R.2.2) ∨ (R.1 ≠ 0 ∧ ∃ q, w.heap.size ≤ q ∧ er = err q ∧ BadAt w' q R.1 R.2.1))
theorem byt_l (D : List Int) (mm : Int) : (byt D mm).2.2.length ≤ D.length ∧ (Byts D → Byts (byt D mm).2.2) := by
  unfold byt
  split
  · exact ⟨by simp only [List.length_take, List.length_drop]; omega, fun h => (h.drop _).take _⟩
  · exact ⟨by simp, fun _ => Byts.nil⟩
theorem str_size {l : List Int} (h : Byts l) : (strOfNums l).size = l.length := by rw [← lst_len, lst_nums h]
theorem fst_rng (D : List Int) (hD : Byts D) (mm : Int) (hmm : 0 ≤ mm) : 0 ≤ (fstM D mm).1 ∧ (fstM D mm).1 ≤ mm := by
  by_cases h : (fstM D mm).2.2 = 0
  · exact fstM_le D mm hD h
  · have := ((fstM_shape D mm).1 h).1; omega
theorem err_step {w w1 w' : World} {why : Int} {a : Nat} {bad : Option Nat} {er : Value} (h : ErrAs w w1 why a bad er) (hk : ∀ q, BadAt w1 q why a → BadAt w' q why a) :
    (why = 0 ∧ er = .nilIface ∧ bad = none) ∨ (why ≠ 0 ∧ ∃ q, w.heap.size ≤ q ∧ er = err q ∧ BadAt w' q why a) := by
  rcases h with ⟨h1, h2, h3⟩ | ⟨h1, q, h2, h3, h4, h5⟩
  · exact .inl ⟨h1, h3, h2⟩
  · exact .inr ⟨h1, q, h2, h4, hk q h5⟩
theorem get0_any (p g : Nat) (s : ByteArray) (a : Nat) (x : OpV) (vA : Value) (ah : List OpV) (w : World) (hI : InAt w p s a none) (hb : s.size ≤ 140737488355328) (hX : Blk w g 79 (opA x)) (hx : OpOk x) :
    Calls Try.prog 102 #[ptr p, ptr g, vA] w (GetPost p g s (getF (lst s) ah 0 x a) w) := by
  have HI := Keep.mk hI
  have HX := Keep.mk hX
  have Hne : Keep (p ≠ g) := ⟨blk_ne hI.blk hX (by decide)⟩
  obtain ⟨D, hD⟩ : ∃ D, D = (lst s).drop a := ⟨_, rfl⟩
  obtain ⟨W, hW⟩ : ∃ W, W = (byt D ((65536 : Nat) : Int)).1 := ⟨_, rfl⟩
  obtain ⟨N, hN⟩ : ∃ N, N = (byt D ((65536 : Nat) : Int)).2.1 := ⟨_, rfl⟩
  obtain ⟨l, hl⟩ : ∃ l, l = (byt D ((65536 : Nat) : Int)).2.2 := ⟨_, rfl⟩
  obtain ⟨st, hst⟩ : ∃ st, st = strOfNums l := ⟨_, rfl⟩
  have hG : getF (lst s) ah 0 x a = (W, a + N, { x with key := st }) := by
    show ((byt ((lst s).drop a) 65536).1, a + (byt ((lst s).drop a) 65536).2.1, _) = _
    rw [hst, hl, hW, hN, hD]; rfl
  have HC := Keep.mk (itext_good p s a 65536 65536 (by decide) w hI hb (by decide) D hD W hW N hN l hl st hst)
  have hsz : st.size ≤ 140737488355328 := by
    have hby : Byts D := by rw [hD]; exact (lst_byts s).drop a
    have hl2 := byt_l D ((65536 : Nat) : Int)
    rw [hst, str_size (by rw [hl]; exact hl2.2 hby), hl]
    have h1 := hl2.1
    have h2 : D.length ≤ s.size := by rw [hD, List.length_drop, lst_len]; omega
    omega
  have HOk : Keep (OpOk { x with key := st }) := ⟨{ hx with key := hsz }⟩
  clear hD hW hN hl hst
  have HGk := Keep.mk hG
  clear hI hb hX hx hG
  have hG := HGk.out
  clear hG
  go_enter Try.func102, Try.ntmps102
  refine wp_seq_k fun K1 hK1 => ?_
  refine wp_region_list (WL.out ?_)
  refine WL.val (by kernel_rfl) (.nilIface) (by go_simp) ?_
  simp only [Act.put, List.setIfInBounds_toArray, List.set_cons_zero, List.set_cons_succ]
  refine WL.nil ?_
  refine hK1 _ _ ?_
  refine wp_seq_k fun K2 hK2 => ?_
  refine wp_region_list (WL.out ?_)
  refine WL.val (by kernel_rfl) (.pointer (some ⟨p, 0, none⟩)) (by go_simp) ?_
  simp only [Act.put, List.setIfInBounds_toArray, List.set_cons_zero, List.set_cons_succ]
  refine WL.callF (by kernel_rfl) 103 _ _ rfl Try.in103 #[ptr p, .int .i64 65536] (by simp [Act.eval]) ?_
  refine (HC.out).mono ?_
  rintro e w1 ⟨bad, er, rfl, h1, h2, h3⟩
  refine ⟨_, rfl, ?_⟩
  have H1 := Keep.mk h1
  have H2 := Keep.mk h2
  have H3 := Keep.mk h3
  have HX1 := Keep.mk (h2.blk HX.out (fun e => Hne.out e.symm))
  have c1 := HX1.out.c 1 (opA_1 x)
  have f1 := HX1.out.frozen 1
  clear h1 h2 h3
  simp only [Act.put, List.setIfInBounds_toArray, List.set_cons_zero, List.set_cons_succ]
  refine WL.val (by kernel_rfl) (.tuple #[.string st, er]) (by go_simp) ?_
  simp only [Act.put, List.setIfInBounds_toArray, List.set_cons_zero, List.set_cons_succ]
  refine WL.val (by kernel_rfl) (.string st) (by go_simp) ?_
  simp only [Act.put, List.setIfInBounds_toArray, List.set_cons_zero, List.set_cons_succ]
  refine WL.val (by kernel_rfl) (er) (by go_simp) ?_
  simp only [Act.put, List.setIfInBounds_toArray, List.set_cons_zero, List.set_cons_succ]
  refine WL.val (by kernel_rfl) (.string st) (by go_simp) ?_
  simp only [Act.put, List.setIfInBounds_toArray, List.set_cons_zero, List.set_cons_succ]
  refine WL.val (by kernel_rfl) (er) (by go_simp) ?_
  simp only [Act.put, List.setIfInBounds_toArray, List.set_cons_zero, List.set_cons_succ]
  refine WL.nil ?_
  refine hK2 _ _ ?_
  refine wp_seq_k fun K3 hK3 => ?_
  refine wp_region_list (WL.out ?_)
  refine WL.val (by kernel_rfl) (.pointer (some ⟨g, 0, none⟩)) (by go_simp) ?_
  simp only [Act.put, List.setIfInBounds_toArray, List.set_cons_zero, List.set_cons_succ]
  refine WL.val (by kernel_rfl) (.string st) (by go_simp) ?_
  simp only [Act.put, List.setIfInBounds_toArray, List.set_cons_zero, List.set_cons_succ]
  refine WL.val (by kernel_rfl) (.pointer (some ⟨g, 0, none⟩)) (by go_simp) ?_
  simp only [Act.put, List.setIfInBounds_toArray, List.set_cons_zero, List.set_cons_succ]
  refine WL.val (by kernel_rfl) (.pointer (some ⟨g, 1, none⟩)) (by go_simp) ?_
  simp only [Act.put, List.setIfInBounds_toArray, List.set_cons_zero, List.set_cons_succ]
  refine WL.cell (by kernel_rfl) (w1.setCell ⟨g, 1, none⟩ (.string st)) (by go_simp) ?_
  simp only [Act.put]
  refine WL.nil ?_
  refine hK3 _ _ ?_
  refine wp_seq_k fun K4 hK4 => ?_
  refine wp_region_list (WL.out ?_)
  refine WL.val (by kernel_rfl) (er) (by go_simp) ?_
  simp only [Act.put, List.setIfInBounds_toArray, List.set_cons_zero, List.set_cons_succ]
  refine WL.val (by kernel_rfl) (er) (by go_simp) ?_
  simp only [Act.put, List.setIfInBounds_toArray, List.set_cons_zero, List.set_cons_succ]
  refine WL.nil ?_
  refine hK4 _ _ ?_
  refine wp_ret ?_
  go_ret
  have hXn := HX1.out.set 1 (.string st)
  rw [set_1] at hXn
  refine ⟨er, rfl, ?_, ?_⟩
  · exact (H2.out.mono fun _ _ h => .inl h).trans (Grown.setCell w1 g 1 _ fun _ => .inr rfl)
  · rw [HGk.out]
    rcases err_step H3.out (w' := w1.setCell ⟨g, 1, none⟩ (.string st)) (fun q hq => hq.set_ne (blk_ne hq HX1.out (by decide)) _) with ⟨h1, h2, h3⟩ | h
    · subst h3
      exact .inl ⟨h1, h2, ⟨H1.out.blk.set_ne (fun e => Hne.out e) _, H1.out.le⟩, hXn, HOk.out⟩
    · exact .inr h
theorem get1_any (p g : Nat) (s : ByteArray) (a : Nat) (x : OpV) (vA : Value) (ah : List OpV) (w : World) (hI : InAt w p s a none) (hb : s.size ≤ 140737488355328) (hX : Blk w g 79 (opA x)) (hx : OpOk x) :
    Calls Try.prog 106 #[ptr p, ptr g, vA] w (GetPost p g s (getF (lst s) ah 1 x a) w) := by
  have HI := Keep.mk hI
  have HX := Keep.mk hX
  have Hne : Keep (p ≠ g) := ⟨blk_ne hI.blk hX (by decide)⟩
  obtain ⟨D, hD⟩ : ∃ D, D = (lst s).drop a := ⟨_, rfl⟩
  obtain ⟨W, hW⟩ : ∃ W, W = (byt D ((65536 : Nat) : Int)).1 := ⟨_, rfl⟩
  obtain ⟨N, hN⟩ : ∃ N, N = (byt D ((65536 : Nat) : Int)).2.1 := ⟨_, rfl⟩
  obtain ⟨l, hl⟩ : ∃ l, l = (byt D ((65536 : Nat) : Int)).2.2 := ⟨_, rfl⟩
  obtain ⟨st, hst⟩ : ∃ st, st = strOfNums l := ⟨_, rfl⟩
  have hG : getF (lst s) ah 1 x a = (W, a + N, { x with text := st }) := by
    show ((byt ((lst s).drop a) 65536).1, a + (byt ((lst s).drop a) 65536).2.1, _) = _
    rw [hst, hl, hW, hN, hD]; rfl
  have HC := Keep.mk (itext_good p s a 65536 65536 (by decide) w hI hb (by decide) D hD W hW N hN l hl st hst)
  have hsz : st.size ≤ 140737488355328 := by
    have hby : Byts D := by rw [hD]; exact (lst_byts s).drop a
    have hl2 := byt_l D ((65536 : Nat) : Int)
    rw [hst, str_size (by rw [hl]; exact hl2.2 hby), hl]
    have h1 := hl2.1
    have h2 : D.length ≤ s.size := by rw [hD, List.length_drop, lst_len]; omega
    omega
  have HOk : Keep (OpOk { x with text := st }) := ⟨{ hx with text := hsz }⟩
  clear hD hW hN hl hst
  have HGk := Keep.mk hG
  clear hI hb hX hx hG
  have hG := HGk.out
  clear hG
  go_enter Try.func106, Try.ntmps106
  refine wp_seq_k fun K1 hK1 => ?_
  refine wp_region_list (WL.out ?_)
  refine WL.val (by kernel_rfl) (.nilIface) (by go_simp) ?_
  simp only [Act.put, List.setIfInBounds_toArray, List.set_cons_zero, List.set_cons_succ]
  refine WL.nil ?_
  refine hK1 _ _ ?_
  refine wp_seq_k fun K2 hK2 => ?_
  refine wp_region_list (WL.out ?_)
  refine WL.val (by kernel_rfl) (.pointer (some ⟨p, 0, none⟩)) (by go_simp) ?_
  simp only [Act.put, List.setIfInBounds_toArray, List.set_cons_zero, List.set_cons_succ]
  refine WL.callF (by kernel_rfl) 103 _ _ rfl Try.in103 #[ptr p, .int .i64 65536] (by simp [Act.eval]) ?_
  refine (HC.out).mono ?_
  rintro e w1 ⟨bad, er, rfl, h1, h2, h3⟩
  refine ⟨_, rfl, ?_⟩
  have H1 := Keep.mk h1
  have H2 := Keep.mk h2
  have H3 := Keep.mk h3
  have HX1 := Keep.mk (h2.blk HX.out (fun e => Hne.out e.symm))
  have c1 := HX1.out.c 2 (opA_2 x)
  have f1 := HX1.out.frozen 2
  clear h1 h2 h3
  simp only [Act.put, List.setIfInBounds_toArray, List.set_cons_zero, List.set_cons_succ]
  refine WL.val (by kernel_rfl) (.tuple #[.string st, er]) (by go_simp) ?_
  simp only [Act.put, List.setIfInBounds_toArray, List.set_cons_zero, List.set_cons_succ]
  refine WL.val (by kernel_rfl) (.string st) (by go_simp) ?_
  simp only [Act.put, List.setIfInBounds_toArray, List.set_cons_zero, List.set_cons_succ]
  refine WL.val (by kernel_rfl) (er) (by go_simp) ?_
  simp only [Act.put, List.setIfInBounds_toArray, List.set_cons_zero, List.set_cons_succ]
  refine WL.val (by kernel_rfl) (.string st) (by go_simp) ?_
  simp only [Act.put, List.setIfInBounds_toArray, List.set_cons_zero, List.set_cons_succ]
  refine WL.val (by kernel_rfl) (er) (by go_simp) ?_
  simp only [Act.put, List.setIfInBounds_toArray, List.set_cons_zero, List.set_cons_succ]
  refine WL.nil ?_
  refine hK2 _ _ ?_
  refine wp_seq_k fun K3 hK3 => ?_
  refine wp_region_list (WL.out ?_)
  refine WL.val (by kernel_rfl) (.pointer (some ⟨g, 0, none⟩)) (by go_simp) ?_
  simp only [Act.put, List.setIfInBounds_toArray, List.set_cons_zero, List.set_cons_succ]
  refine WL.val (by kernel_rfl) (.string st) (by go_simp) ?_
  simp only [Act.put, List.setIfInBounds_toArray, List.set_cons_zero, List.set_cons_succ]
  refine WL.val (by kernel_rfl) (.pointer (some ⟨g, 0, none⟩)) (by go_simp) ?_
  simp only [Act.put, List.setIfInBounds_toArray, List.set_cons_zero, List.set_cons_succ]
  refine WL.val (by kernel_rfl) (.pointer (some ⟨g, 2, none⟩)) (by go_simp) ?_
  simp only [Act.put, List.setIfInBounds_toArray, List.set_cons_zero, List.set_cons_succ]
  refine WL.cell (by kernel_rfl) (w1.setCell ⟨g, 2, none⟩ (.string st)) (by go_simp) ?_
  simp only [Act.put]
  refine WL.nil ?_
  refine hK3 _ _ ?_
  refine wp_seq_k fun K4 hK4 => ?_
  refine wp_region_list (WL.out ?_)
  refine WL.val (by kernel_rfl) (er) (by go_simp) ?_
  simp only [Act.put, List.setIfInBounds_toArray, List.set_cons_zero, List.set_cons_succ]
  refine WL.val (by kernel_rfl) (er) (by go_simp) ?_
  simp only [Act.put, List.setIfInBounds_toArray, List.set_cons_zero, List.set_cons_succ]
  refine WL.nil ?_
  refine hK4 _ _ ?_
  refine wp_ret ?_
  go_ret
  have hXn := HX1.out.set 2 (.string st)
  rw [set_2] at hXn
  refine ⟨er, rfl, ?_, ?_⟩
  · exact (H2.out.mono fun _ _ h => .inl h).trans (Grown.setCell w1 g 2 _ fun _ => .inr rfl)
  · rw [HGk.out]
    rcases err_step H3.out (w' := w1.setCell ⟨g, 2, none⟩ (.string st)) (fun q hq => hq.set_ne (blk_ne hq HX1.out (by decide)) _) with ⟨h1, h2, h3⟩ | h
    · subst h3
      exact .inl ⟨h1, h2, ⟨H1.out.blk.set_ne (fun e => Hne.out e) _, H1.out.le⟩, hXn, HOk.out⟩
    · exact .inr h
theorem get2_any (p g : Nat) (s : ByteArray) (a : Nat) (x : OpV) (vA : Value) (ah : List OpV) (w : World) (hI : InAt w p s a none) (hb : s.size ≤ 140737488355328) (hX : Blk w g 79 (opA x)) (hx : OpOk x) :
    Calls Try.prog 110 #[ptr p, ptr g, vA] w (GetPost p g s (getF (lst s) ah 2 x a) w) := by
  have HI := Keep.mk hI
  have HX := Keep.mk hX
  have Hne : Keep (p ≠ g) := ⟨blk_ne hI.blk hX (by decide)⟩
  obtain ⟨R, hR⟩ : ∃ R, R = fstM ((lst s).drop a) 18446744073709551615 := ⟨_, rfl⟩
  obtain ⟨y, hy⟩ : ∃ y, y = if R.2.2 = 0 then zag R.1 else 0 := ⟨_, rfl⟩
  have hrg := fst_rng ((lst s).drop a) ((lst_byts s).drop a) 18446744073709551615 (by decide)
  rw [← hR] at hrg
  have hG : getF (lst s) ah 2 x a = (R.2.2, a + R.2.1.toNat, { x with n := y }) := by
    show ((fstM ((lst s).drop a) 18446744073709551615).2.2, _, _) = _
    rw [hy, hR]
  have HC := Keep.mk (isigned_good p s a w hI hb R hR y hy hrg.1 (by omega))
  have hyr : -9223372036854775808 ≤ y ∧ y ≤ 9223372036854775807 := by
    rw [hy]
    split
    · unfold zag; split <;> omega
    · omega
  have HOk : Keep (OpOk { x with n := y }) := ⟨{ hx with n1 := hyr.1, n2 := hyr.2 }⟩
  clear hR hy hrg hyr
  have HGk := Keep.mk hG
  clear hI hb hX hx hG
  have hG := HGk.out
  clear hG
  go_enter Try.func110, Try.ntmps110
  refine wp_seq_k fun K1 hK1 => ?_
  refine wp_region_list (WL.out ?_)
  refine WL.val (by kernel_rfl) (.nilIface) (by go_simp) ?_
  simp only [Act.put, List.setIfInBounds_toArray, List.set_cons_zero, List.set_cons_succ]
  refine WL.nil ?_
  refine hK1 _ _ ?_
  refine wp_seq_k fun K2 hK2 => ?_
  refine wp_region_list (WL.out ?_)
  refine WL.val (by kernel_rfl) (.pointer (some ⟨p, 0, none⟩)) (by go_simp) ?_
  simp only [Act.put, List.setIfInBounds_toArray, List.set_cons_zero, List.set_cons_succ]
  refine WL.callF (by kernel_rfl) 111 _ _ rfl Try.in111 #[ptr p] (by simp [Act.eval]) ?_
  refine (HC.out).mono ?_
  rintro e w1 ⟨bad, er, rfl, h1, h2, h3⟩
  refine ⟨_, rfl, ?_⟩
  have H1 := Keep.mk h1
  have H2 := Keep.mk h2
  have H3 := Keep.mk h3
  have HX1 := Keep.mk (h2.blk HX.out (fun e => Hne.out e.symm))
  have c1 := HX1.out.c 3 (opA_3 x)
  have f1 := HX1.out.frozen 3
  clear h1 h2 h3
  simp only [Act.put, List.setIfInBounds_toArray, List.set_cons_zero, List.set_cons_succ]
  refine WL.val (by kernel_rfl) (.tuple #[.int .i64 y, er]) (by go_simp) ?_
  simp only [Act.put, List.setIfInBounds_toArray, List.set_cons_zero, List.set_cons_succ]
  refine WL.val (by kernel_rfl) (.int .i64 y) (by go_simp) ?_
  simp only [Act.put, List.setIfInBounds_toArray, List.set_cons_zero, List.set_cons_succ]
  refine WL.val (by kernel_rfl) (er) (by go_simp) ?_
  simp only [Act.put, List.setIfInBounds_toArray, List.set_cons_zero, List.set_cons_succ]
  refine WL.val (by kernel_rfl) (.int .i64 y) (by go_simp) ?_
  simp only [Act.put, List.setIfInBounds_toArray, List.set_cons_zero, List.set_cons_succ]
  refine WL.val (by kernel_rfl) (er) (by go_simp) ?_
  simp only [Act.put, List.setIfInBounds_toArray, List.set_cons_zero, List.set_cons_succ]
  refine WL.nil ?_
  refine hK2 _ _ ?_
  refine wp_seq_k fun K3 hK3 => ?_
  refine wp_region_list (WL.out ?_)
  refine WL.val (by kernel_rfl) (.pointer (some ⟨g, 0, none⟩)) (by go_simp) ?_
  simp only [Act.put, List.setIfInBounds_toArray, List.set_cons_zero, List.set_cons_succ]
  refine WL.val (by kernel_rfl) (.int .i64 y) (by go_simp) ?_
  simp only [Act.put, List.setIfInBounds_toArray, List.set_cons_zero, List.set_cons_succ]
  refine WL.val (by kernel_rfl) (.pointer (some ⟨g, 0, none⟩)) (by go_simp) ?_
  simp only [Act.put, List.setIfInBounds_toArray, List.set_cons_zero, List.set_cons_succ]
  refine WL.val (by kernel_rfl) (.pointer (some ⟨g, 3, none⟩)) (by go_simp) ?_
  simp only [Act.put, List.setIfInBounds_toArray, List.set_cons_zero, List.set_cons_succ]
  refine WL.cell (by kernel_rfl) (w1.setCell ⟨g, 3, none⟩ (.int .i64 y)) (by go_simp) ?_
  simp only [Act.put]
  refine WL.nil ?_
  refine hK3 _ _ ?_
  refine wp_seq_k fun K4 hK4 => ?_
  refine wp_region_list (WL.out ?_)
  refine WL.val (by kernel_rfl) (er) (by go_simp) ?_
  simp only [Act.put, List.setIfInBounds_toArray, List.set_cons_zero, List.set_cons_succ]
  refine WL.val (by kernel_rfl) (er) (by go_simp) ?_
  simp only [Act.put, List.setIfInBounds_toArray, List.set_cons_zero, List.set_cons_succ]
  refine WL.nil ?_
  refine hK4 _ _ ?_
  refine wp_ret ?_
  go_ret
  have hXn := HX1.out.set 3 (.int .i64 y)
  rw [set_3] at hXn
  refine ⟨er, rfl, ?_, ?_⟩
  · exact (H2.out.mono fun _ _ h => .inl h).trans (Grown.setCell w1 g 3 _ fun _ => .inr rfl)
  · rw [HGk.out]
    rcases err_step H3.out (w' := w1.setCell ⟨g, 3, none⟩ (.int .i64 y)) (fun q hq => hq.set_ne (blk_ne hq HX1.out (by decide)) _) with ⟨h1, h2, h3⟩ | h
    · subst h3
      exact .inl ⟨h1, h2, ⟨H1.out.blk.set_ne (fun e => Hne.out e) _, H1.out.le⟩, hXn, HOk.out⟩
    · exact .inr h
set_option maxRecDepth 8000 in
set_option maxHeartbeats 2000000 in
theorem get3_any (p g : Nat) (s : ByteArray) (a : Nat) (x : OpV) (vA : Value) (ah : List OpV) (w : World) (hI : InAt w p s a none) (hb : s.size ≤ 140737488355328) (hX : Blk w g 79 (opA x)) (hx : OpOk x)
    (hA : ∀ wx, (Grown w wx fun k => k = p ∨ k = g) → OpsAt wx vA ah) (hal : ah.length ≤ 1024) :
    Calls Try.prog 114 #[ptr p, ptr g, vA] w (GetPost p g s (getF (lst s) ah 3 x a) w) := by
  have HI := Keep.mk hI
  have HX := Keep.mk hX
  have Hb := Keep.mk hb
  have HA := Keep.mk hA
  have HAl : Keep (ah.length ≤ 4398046511104) := ⟨by omega⟩
  have Hne : Keep (p ≠ g) := ⟨blk_ne hI.blk hX (by decide)⟩
  have hG : getF (lst s) ah 3 x a = getA (lst s) ah x a := rfl
  rw [hG]
  clear hG
  have hBy : Byts ((lst s).drop a) := (lst_byts s).drop a
  have hrg := fst_rng ((lst s).drop a) hBy 1024 (by decide)
  have hc := inum_good p s a 1024 w hI hb
  obtain ⟨G, hG⟩ : ∃ G, G = getA (lst s) ah x a := ⟨_, rfl⟩
  rw [← hG]
  unfold getA at hG
  have hc' : Calls Try.prog 61 #[ptr p, .int .u64 1024] w (RdPost p s (fstM ((lst s).drop a) 1024).2.2 (a + (fstM ((lst s).drop a) 1024).2.1.toNat) (.int .u64 (fstM ((lst s).drop a) 1024).1) w) := hc
  clear hc
  generalize fstM ((lst s).drop a) 1024 = R at *
  obtain ⟨rv, rn, re⟩ := R
  simp only at hG hc' hrg
  obtain ⟨a1, ha1⟩ : ∃ a1, a1 = a + rn.toNat := ⟨_, rfl⟩
  rw [← ha1] at hG hc'
  obtain ⟨D1, hD1⟩ : ∃ D1, D1 = (lst s).drop a1 := ⟨_, rfl⟩
  obtain ⟨W2, hW2⟩ : ∃ W2, W2 = nextW D1 32 := ⟨_, rfl⟩
  obtain ⟨N2, hN2⟩ : ∃ N2, N2 = nextN D1 32 := ⟨_, rfl⟩
  rw [← hD1, ← hW2, ← hN2] at hG
  have HC := Keep.mk hc'
  have Hrg := Keep.mk hrg
  have HD1 := Keep.mk hD1
  have HW2 := Keep.mk hW2
  have HN2 := Keep.mk hN2
  have HG1 : Keep (¬ re = 0 → G = (re, a1, x)) := ⟨fun h => by rw [hG, if_pos h]⟩
  have HG0 : Keep (re = 0 → rv = 0 → G = if mayAt ah { x with op := 0 } = true then (0, a1, { x with op := 0 }) else (42, a, x)) := ⟨fun h h2 => by rw [hG, if_neg (by simp [h]), if_pos h2]⟩
  have HGb : Keep (re = 0 → ¬ rv = 0 → ¬ W2 = 0 → G = (W2, a1 + N2, x)) := ⟨fun h h2 h3 => by rw [hG, if_neg (by simp [h]), if_neg h2, if_pos h3]⟩
  have HGn : Keep (re = 0 → ¬ rv = 0 → W2 = 0 → G = if mayAt ah { x with op := rv, node := D1.take 32 } = true then (0, a1 + 32, { x with op := rv, node := D1.take 32 }) else (42, a, x)) := ⟨fun h h2 h3 => by rw [hG, if_neg (by simp [h]), if_neg h2, if_neg (by simp [h3])]⟩
  have hN32 : W2 = 0 → N2 = 32 := fun h => by rw [hN2, (nextN_0 D1 32 (by rw [← hW2]; exact h)).1]; rfl
  have hlen : W2 = 0 → (D1.take 32).length = 32 := fun h => by
    have := (nextN_0 D1 32 (by rw [← hW2]; exact h)).2.2
    rw [List.length_take]; omega
  have hhl : W2 = 0 → hl 32 (hrd D1 W2) = D1.take 32 := fun h => by
    rw [← hl_hof (D1.take 32) (hlen h)]
    unfold hl
    apply List.map_congr_left
    intro i hi
    have hi' := List.mem_range.1 hi
    show (if W2 = 0 then D1.getD i 0 else 0) = (D1.take 32).getD i 0
    rw [if_pos h]
    simp [List.getD_eq_getElem?_getD, List.getElem?_take, hi']
  have hz1 : (-9223372036854775808 : Int) ≤ 0 := by decide
  have hz2 : (0 : Int) ≤ 9223372036854775807 := by decide
  have HOk0 : Keep (OpOk { x with op := 0 }) := ⟨{ hx with o1 := hz1, o2 := hz2 }⟩
  have hz3 : (-9223372036854775808 : Int) ≤ rv := by omega
  have hz4 : rv ≤ 9223372036854775807 := by omega
  have hz5 : Byts (D1.take 32) := by rw [hD1]; exact ((lst_byts s).drop a1).take 32
  have HOkn : Keep (W2 = 0 → OpOk { x with op := rv, node := D1.take 32 }) := ⟨fun h => { hx with o1 := hz3, o2 := hz4, node := hlen h, byts := hz5 }⟩
  clear hz1 hz2 hz3 hz4 hz5
  clear hI hb hX hx hA hal hBy hrg hc' hG ha1 hD1 hW2 hN2 hlen
  go_enter Try.func114, Try.ntmps114
  refine wp_seq_k fun K1 hK1 => ?_
  refine wp_region_list (WL.out ?_)
  refine WL.val (by kernel_rfl) (.nilIface) (by go_simp) ?_
  simp only [Act.put, List.setIfInBounds_toArray, List.set_cons_zero, List.set_cons_succ]
  refine WL.nil ?_
  refine hK1 _ _ ?_
  refine wp_seq_k fun K2 hK2 => ?_
  refine wp_region_list (WL.out ?_)
  refine WL.val (by kernel_rfl) (.pointer (some ⟨p, 0, none⟩)) (by go_simp) ?_
  simp only [Act.put, List.setIfInBounds_toArray, List.set_cons_zero, List.set_cons_succ]
  refine WL.callF (by kernel_rfl) 58 _ _ rfl Try.in58 #[ptr p] (by simp [Act.eval]) ?_
  refine (iat_any p s a none w HI.out).mono ?_
  rintro e w0 ⟨rfl, hw0⟩
  rw [hw0]
  clear hw0 w0
  refine ⟨_, rfl, ?_⟩
  simp only [Act.put, List.setIfInBounds_toArray, List.set_cons_zero, List.set_cons_succ]
  refine WL.val (by kernel_rfl) (.int .i64 (a : Int)) (by go_simp) ?_
  simp only [Act.put, List.setIfInBounds_toArray, List.set_cons_zero, List.set_cons_succ]
  refine WL.nil ?_
  refine hK2 _ _ ?_
  refine wp_seq_k fun K3 hK3 => ?_
  refine wp_region_list (WL.out ?_)
  refine WL.val (by kernel_rfl) (.pointer (some ⟨p, 0, none⟩)) (by go_simp) ?_
  simp only [Act.put, List.setIfInBounds_toArray, List.set_cons_zero, List.set_cons_succ]
  refine WL.callF (by kernel_rfl) 61 _ _ rfl Try.in61 #[ptr p, .int .u64 1024] (by simp [Act.eval]) ?_
  refine (HC.out).mono ?_
  rintro e w1 ⟨bad, er, rfl, h1, h2, h3⟩
  refine ⟨_, rfl, ?_⟩
  have HX1 := Keep.mk (h2.blk HX.out (fun e => Hne.out e.symm))
  have H1 := Keep.mk h1
  have H2 := Keep.mk h2
  have H3 := Keep.mk h3
  clear h1 h2 h3
  simp only [Act.put, List.setIfInBounds_toArray, List.set_cons_zero, List.set_cons_succ]
  refine WL.val (by kernel_rfl) (.tuple #[.int .u64 rv, er]) (by go_simp) ?_
  simp only [Act.put, List.setIfInBounds_toArray, List.set_cons_zero, List.set_cons_succ]
  refine WL.val (by kernel_rfl) (.int .u64 rv) (by go_simp) ?_
  simp only [Act.put, List.setIfInBounds_toArray, List.set_cons_zero, List.set_cons_succ]
  refine WL.val (by kernel_rfl) (er) (by go_simp) ?_
  simp only [Act.put, List.setIfInBounds_toArray, List.set_cons_zero, List.set_cons_succ]
  refine WL.val (by kernel_rfl) (.int .u64 rv) (by go_simp) ?_
  simp only [Act.put, List.setIfInBounds_toArray, List.set_cons_zero, List.set_cons_succ]
  refine WL.val (by kernel_rfl) (er) (by go_simp) ?_
  simp only [Act.put, List.setIfInBounds_toArray, List.set_cons_zero, List.set_cons_succ]
  refine WL.nil ?_
  refine hK3 _ _ ?_
  refine wp_seq_k fun K4 hK4 => ?_
  refine wp_seq_k fun K5 hK5 => ?_
  by_cases hE : re = 0
  · rcases H3.out with ⟨e1, rfl, rfl⟩ | ⟨e1, _⟩
    rotate_left
    · exact absurd hE e1
    have c36 := HX1.out.c 36 (opA_36 x)
    have f36 := HX1.out.frozen 36
    have hwn : IntKind.i64.wrap rv = rv := by rw [IntKind.wrap_i64]; have := Hrg.out; omega
    refine wp_region_list (WL.out ?_)
    refine WL.val (by kernel_rfl) (.nilIface) (by go_simp) ?_
    simp only [Act.put, List.setIfInBounds_toArray, List.set_cons_zero, List.set_cons_succ]
    refine WL.val (by kernel_rfl) (.bool false) (by go_simp) ?_
    simp only [Act.put, List.setIfInBounds_toArray, List.set_cons_zero, List.set_cons_succ]
    refine WL.nil ?_
    refine hK5 _ _ ?_
    refine wp_cond_false rfl ?_
    refine wp_skip ?_
    refine hK4 _ _ ?_
    refine wp_seq_k fun K6 hK6 => ?_
    refine wp_region_list (WL.out ?_)
    refine WL.val (by kernel_rfl) (.pointer (some ⟨g, 0, none⟩)) (by go_simp) ?_
    simp only [Act.put, List.setIfInBounds_toArray, List.set_cons_zero, List.set_cons_succ]
    refine WL.val (by kernel_rfl) (.int .u64 rv) (by go_simp) ?_
    simp only [Act.put, List.setIfInBounds_toArray, List.set_cons_zero, List.set_cons_succ]
    refine WL.val (by kernel_rfl) (.int .i64 rv) (by go_simp) ?_
    simp only [Act.put, List.setIfInBounds_toArray, List.set_cons_zero, List.set_cons_succ]
    refine WL.val (by kernel_rfl) (.pointer (some ⟨g, 0, none⟩)) (by go_simp) ?_
    simp only [Act.put, List.setIfInBounds_toArray, List.set_cons_zero, List.set_cons_succ]
    refine WL.val (by kernel_rfl) (.pointer (some ⟨g, 4, none⟩)) (by go_simp) ?_
    simp only [Act.put, List.setIfInBounds_toArray, List.set_cons_zero, List.set_cons_succ]
    refine WL.val (by kernel_rfl) (.pointer (some ⟨g, 36, none⟩)) (by go_simp) ?_
    simp only [Act.put, List.setIfInBounds_toArray, List.set_cons_zero, List.set_cons_succ]
    refine WL.cell (by kernel_rfl) (w1.setCell ⟨g, 36, none⟩ (.int .i64 rv)) (by go_simp) ?_
    have HX2 := Keep.mk (HX1.out.set 36 (.int .i64 rv))
    rw [set_36] at HX2
    have HI2 : Keep (InAt (w1.setCell ⟨g, 36, none⟩ (.int .i64 rv)) p s a1 none) := ⟨H1.out.blk.set_ne (fun e => Hne.out e) _, H1.out.le⟩
    have HG2 : Keep (Grown w (w1.setCell ⟨g, 36, none⟩ (.int .i64 rv)) fun k => k = p ∨ k = g) := ⟨(H2.out.mono fun _ _ h => .inl h).trans (Grown.setCell w1 g 36 _ fun _ => .inr rfl)⟩
    generalize w1.setCell ⟨g, 36, none⟩ (.int .i64 rv) = w2 at *
    clear c36 f36
    simp only [Act.put]
    refine WL.nil ?_
    refine hK6 _ _ ?_
    refine wp_seq_k fun K7 hK7 => ?_
    refine wp_seq_k fun K8 hK8 => ?_
    refine wp_region_list (WL.out ?_)
    refine WL.val (by kernel_rfl) (.int .u64 rv) (by go_simp) ?_
    simp only [Act.put, List.setIfInBounds_toArray, List.set_cons_zero, List.set_cons_succ]
    by_cases h6_1 : rv = 0
    · skip
      refine WL.val (by kernel_rfl) (.bool false) (by go_simp) ?_
      simp only [Act.put, List.setIfInBounds_toArray, List.set_cons_zero, List.set_cons_succ]
      refine WL.nil ?_
      refine hK8 _ _ ?_
      refine wp_cond_false rfl ?_
      refine wp_skip ?_
      refine hK7 _ _ ?_
      refine wp_seq_k fun K9 hK9 => ?_
      refine wp_seq_k fun K10 hK10 => ?_
      refine wp_region_list (WL.out ?_)
      refine WL.val (by kernel_rfl) (.pointer (some ⟨g, 0, none⟩)) (by go_simp) ?_
      simp only [Act.put, List.setIfInBounds_toArray, List.set_cons_zero, List.set_cons_succ]
      refine WL.val (by kernel_rfl) (.pointer (some ⟨g, 0, none⟩)) (by go_simp) ?_
      simp only [Act.put, List.setIfInBounds_toArray, List.set_cons_zero, List.set_cons_succ]
      have hrv0 := h6_1
      obtain ⟨x2, hx2⟩ : ∃ x2 : OpV, Keep (x2 = { x with op := 0 }) := ⟨_, ⟨rfl⟩⟩
      rw [h6_1] at HX2
      rw [← hx2.out] at HX2
      have HOk5 : Keep (OpOk x2) := ⟨by rw [hx2.out]; exact HOk0.out⟩
      refine WL.row (by kernel_rfl) 79 (.tmp 44) rfl g rfl 79 (opA x2) _ HX2.out Try.underlying79 rfl (Try.size79B x2) ?_
      simp only [Act.put, List.setIfInBounds_toArray, List.set_cons_zero, List.set_cons_succ]
      refine WL.val (by kernel_rfl) (vA) (by go_simp) ?_
      simp only [Act.put, List.setIfInBounds_toArray, List.set_cons_zero, List.set_cons_succ]
      refine WL.callF (by kernel_rfl) 83 _ _ rfl Try.in83 #[.agg (opA x2), vA] (by simp [Act.eval]) ?_
      refine (may_any x2 vA ah w2 HOk5.out (HA.out w2 HG2.out) HAl.out).mono ?_
      rintro e w6 ⟨rfl, h6⟩
      refine ⟨_, rfl, ?_⟩
      have HX6 := Keep.mk (HX2.out.below h6 HX2.out.lt)
      have HI6 : Keep (InAt w6 p s _ none) := ⟨HI2.out.blk.below h6 HI2.out.blk.lt, HI2.out.le⟩
      have HG6 : Keep (Grown w w6 fun k => k = p ∨ k = g) := ⟨HG2.out.trans (Grown.below h6)⟩
      clear h6
      simp only [Act.put, List.setIfInBounds_toArray, List.set_cons_zero, List.set_cons_succ]
      rcases Bool.eq_false_or_eq_true (!mayAt ah x2) with h11_5 | h11_5
      · have hmy : mayAt ah x2 = false := by simpa using h11_5
        refine WL.val (by kernel_rfl) (.bool true) (by go_simp) ?_
        simp only [Act.put, List.setIfInBounds_toArray, List.set_cons_zero, List.set_cons_succ]
        refine WL.nil ?_
        refine hK10 _ _ ?_
        refine wp_cond_true rfl ?_
        refine wp_seq_k fun K11 hK11 => ?_
        refine wp_region_list (WL.out ?_)
        refine WL.val (by kernel_rfl) (.int .i64 (a : Int)) (by go_simp) ?_
        simp only [Act.put, List.setIfInBounds_toArray, List.set_cons_zero, List.set_cons_succ]
        refine WL.bld (by kernel_rfl) 70 _ rfl [(0, .int .i64 42), (1, .int .i64 (a : Int))] (by simp [Act.eval]) #[.int .i64 42, .int .i64 (a : Int)] (by kernel_rfl) ?_
        simp only [Act.put, List.setIfInBounds_toArray, List.set_cons_zero, List.set_cons_succ]
        refine WL.box (by kernel_rfl) 70 (.tmp 50) rfl #[.int .i64 42, .int .i64 (a : Int)] rfl ?_
        simp only [Act.put, List.setIfInBounds_toArray, List.set_cons_zero, List.set_cons_succ]
        refine WL.val (by kernel_rfl) (.iface 68 (.pointer (some ⟨w6.heap.size, 0, none⟩))) (by go_simp) ?_
        simp only [Act.put, List.setIfInBounds_toArray, List.set_cons_zero, List.set_cons_succ]
        refine WL.val (by kernel_rfl) (.iface 68 (.pointer (some ⟨w6.heap.size, 0, none⟩))) (by go_simp) ?_
        simp only [Act.put, List.setIfInBounds_toArray, List.set_cons_zero, List.set_cons_succ]
        refine WL.nil ?_
        refine hK11 _ _ ?_
        refine wp_ret ?_
        go_ret
        exact ⟨err w6.heap.size, rfl, HG6.out.trans (Grown.alloc w6 _ _), by rw [HG0.out hE hrv0, ← hx2.out, if_neg (by rw [hmy]; decide)]; exact .inr ⟨(show (42 : Int) ≠ 0 by decide), _, HG6.out.size, rfl, Blk.new w6 70 _⟩⟩
      · have hmy : mayAt ah x2 = true := by simpa using h11_5
        refine WL.val (by kernel_rfl) (.bool false) (by go_simp) ?_
        simp only [Act.put, List.setIfInBounds_toArray, List.set_cons_zero, List.set_cons_succ]
        refine WL.nil ?_
        refine hK10 _ _ ?_
        refine wp_cond_false rfl ?_
        refine wp_skip ?_
        refine hK9 _ _ ?_
        refine wp_seq_k fun K12 hK12 => ?_
        refine wp_region_list (WL.out ?_)
        refine WL.val (by kernel_rfl) (.nilIface) (by go_simp) ?_
        simp only [Act.put, List.setIfInBounds_toArray, List.set_cons_zero, List.set_cons_succ]
        refine WL.nil ?_
        refine hK12 _ _ ?_
        refine wp_ret ?_
        go_ret
        exact ⟨.nilIface, rfl, HG6.out, by rw [HG0.out hE hrv0, ← hx2.out, if_pos hmy]; exact .inl ⟨rfl, rfl, HI6.out, HX6.out, HOk5.out⟩⟩
    · skip
      refine WL.val (by kernel_rfl) (.bool true) (by go_simp) ?_
      simp only [Act.put, List.setIfInBounds_toArray, List.set_cons_zero, List.set_cons_succ]
      refine WL.nil ?_
      refine hK8 _ _ ?_
      refine wp_cond_true rfl ?_
      refine wp_seq_k fun K13 hK13 => ?_
      refine wp_region_list (WL.out ?_)
      refine WL.val (by kernel_rfl) (.pointer (some ⟨p, 0, none⟩)) (by go_simp) ?_
      simp only [Act.put, List.setIfInBounds_toArray, List.set_cons_zero, List.set_cons_succ]
      refine WL.callF (by kernel_rfl) 91 _ _ rfl Try.in91 #[ptr p] (by simp [Act.eval]) ?_
      refine (ihash_good p s a1 w2 HI2.out Hb.out D1 HD1.out W2 HW2.out N2 HN2.out).mono ?_
      rintro e w3 ⟨bad3, er3, rfl, h1, h2, h3⟩
      refine ⟨_, rfl, ?_⟩
      have HX3 := Keep.mk (h2.blk HX2.out (fun e => Hne.out e.symm))
      have I1 := Keep.mk h1
      have I2 := Keep.mk h2
      have I3 := Keep.mk h3
      have HG3 : Keep (Grown w w3 fun k => k = p ∨ k = g) := ⟨HG2.out.trans (h2.mono fun _ _ h => .inl h)⟩
      clear h1 h2 h3
      simp only [Act.put, List.setIfInBounds_toArray, List.set_cons_zero, List.set_cons_succ]
      refine WL.val (by kernel_rfl) (.tuple #[.agg (bytesA 32 (hrd D1 W2)), er3]) (by go_simp) ?_
      simp only [Act.put, List.setIfInBounds_toArray, List.set_cons_zero, List.set_cons_succ]
      refine WL.val (by kernel_rfl) (.agg (bytesA 32 (hrd D1 W2))) (by go_simp) ?_
      simp only [Act.put, List.setIfInBounds_toArray, List.set_cons_zero, List.set_cons_succ]
      refine WL.val (by kernel_rfl) (er3) (by go_simp) ?_
      simp only [Act.put, List.setIfInBounds_toArray, List.set_cons_zero, List.set_cons_succ]
      refine WL.new (by kernel_rfl) 40 rfl _ Try.new40 ?_
      simp only [Act.put, List.setIfInBounds_toArray, List.set_cons_zero, List.set_cons_succ]
      refine WL.storeR (by kernel_rfl) 40 (.tmp 10) (.tmp 33) rfl w3.heap.size (bytesA 32 (hrd D1 W2)) rfl rfl 40 (bytesA 32 fun _ => 0) (Blk.new w3 40 _) (Try.size40B _) (bytesA_sizes _ _ _) (bytesA_one _ _) ?_
      have HV4 := Keep.mk ((Blk.new w3 40 (bytesA 32 fun _ => 0)).setRow (bytesA 32 (hrd D1 W2)))
      have B4 : Keep (Below w3.heap.size w3 ((w3.alloc (.cells (bytesA 32 fun _ => 0) 40)).setRow w3.heap.size (bytesA 32 (hrd D1 W2)))) := ⟨below_setRow (below_new w3 _) (Nat.le_refl _) _⟩
      generalize (w3.alloc (.cells (bytesA 32 fun _ => 0) 40)).setRow w3.heap.size (bytesA 32 (hrd D1 W2)) = w4 at *
      have HX4 := Keep.mk (HX3.out.below B4.out HX3.out.lt)
      have HG4 : Keep (Grown w w4 fun k => k = p ∨ k = g) := ⟨HG3.out.trans (Grown.below B4.out)⟩
      simp only [Act.put]
      refine WL.val (by kernel_rfl) (er3) (by go_simp) ?_
      simp only [Act.put, List.setIfInBounds_toArray, List.set_cons_zero, List.set_cons_succ]
      refine WL.nil ?_
      refine hK13 _ _ ?_
      refine wp_seq_k fun K14 hK14 => ?_
      refine wp_seq_k fun K15 hK15 => ?_
      by_cases hE2 : W2 = 0
      · rcases I3.out with ⟨e1, rfl, rfl⟩ | ⟨e1, _⟩
        rotate_left
        · exact absurd hE2 e1
        have HI4 : Keep (InAt w4 p s (a1 + N2) none) := ⟨I1.out.blk.below B4.out I1.out.blk.lt, I1.out.le⟩
        refine wp_region_list (WL.out ?_)
        refine WL.val (by kernel_rfl) (.nilIface) (by go_simp) ?_
        simp only [Act.put, List.setIfInBounds_toArray, List.set_cons_zero, List.set_cons_succ]
        refine WL.val (by kernel_rfl) (.bool false) (by go_simp) ?_
        simp only [Act.put, List.setIfInBounds_toArray, List.set_cons_zero, List.set_cons_succ]
        refine WL.nil ?_
        refine hK15 _ _ ?_
        refine wp_cond_false rfl ?_
        refine wp_skip ?_
        refine hK14 _ _ ?_
        refine wp_region_list (WL.out ?_)
        refine WL.val (by kernel_rfl) (.pointer (some ⟨g, 0, none⟩)) (by go_simp) ?_
        simp only [Act.put, List.setIfInBounds_toArray, List.set_cons_zero, List.set_cons_succ]
        refine WL.row (by kernel_rfl) 40 (.tmp 10) rfl w3.heap.size rfl 40 (bytesA 32 (hrd D1 W2)) _ HV4.out Try.underlying40 rfl (Try.size40B _) ?_
        simp only [Act.put, List.setIfInBounds_toArray, List.set_cons_zero, List.set_cons_succ]
        refine WL.val (by kernel_rfl) (.pointer (some ⟨g, 0, none⟩)) (by go_simp) ?_
        simp only [Act.put, List.setIfInBounds_toArray, List.set_cons_zero, List.set_cons_succ]
        refine WL.val (by kernel_rfl) (.pointer (some ⟨g, 4, none⟩)) (by go_simp) ?_
        simp only [Act.put, List.setIfInBounds_toArray, List.set_cons_zero, List.set_cons_succ]
        refine WL.val (by kernel_rfl) (.pointer (some ⟨g, 4, none⟩)) (by go_simp) ?_
        simp only [Act.put, List.setIfInBounds_toArray, List.set_cons_zero, List.set_cons_succ]
        refine WL.part (by kernel_rfl) 40 (.tmp 42) (.tmp 39) rfl g 4 (bytesA 32 (hrd D1 W2)) rfl rfl 79 (opA { x with op := rv }) HX4.out (Try.size40B _) (by rw [bytesA_size, opA_size]; decide) (bytesA_one _ _) _ (put_node { x with op := rv } (hrd D1 W2)) ?_
        have HX5 := Keep.mk (HX4.out.setRow (opA { x with op := rv, node := hl 32 (hrd D1 W2) }))
        have HI5 : Keep (InAt (w4.setRow g (opA { x with op := rv, node := hl 32 (hrd D1 W2) })) p s (a1 + N2) none) := ⟨HI4.out.blk.setRow_ne (fun e => Hne.out e) _, HI4.out.le⟩
        have HG5 : Keep (Grown w (w4.setRow g (opA { x with op := rv, node := hl 32 (hrd D1 W2) })) fun k => k = p ∨ k = g) := ⟨HG4.out.trans (Grown.setRow w4 g _ fun _ => .inr rfl)⟩
        rw [hhl hE2] at HX5 HI5 HG5 ⊢
        obtain ⟨x2, hx2⟩ : ∃ x2 : OpV, Keep (x2 = { x with op := rv, node := D1.take 32 }) := ⟨_, ⟨rfl⟩⟩
        rw [← hx2.out] at HX5 HI5 HG5 ⊢
        generalize w4.setRow g (opA x2) = w5 at *
        have HOk5 : Keep (OpOk x2) := ⟨by rw [hx2.out]; exact HOkn.out hE2⟩
        simp only [Act.put]
        refine WL.nil ?_
        refine hK7 _ _ ?_
        refine wp_seq_k fun K16 hK16 => ?_
        refine wp_seq_k fun K17 hK17 => ?_
        refine wp_region_list (WL.out ?_)
        refine WL.val (by kernel_rfl) (.pointer (some ⟨g, 0, none⟩)) (by go_simp) ?_
        simp only [Act.put, List.setIfInBounds_toArray, List.set_cons_zero, List.set_cons_succ]
        refine WL.val (by kernel_rfl) (.pointer (some ⟨g, 0, none⟩)) (by go_simp) ?_
        simp only [Act.put, List.setIfInBounds_toArray, List.set_cons_zero, List.set_cons_succ]
        refine WL.row (by kernel_rfl) 79 (.tmp 44) rfl g rfl 79 (opA x2) _ HX5.out Try.underlying79 rfl (Try.size79B x2) ?_
        simp only [Act.put, List.setIfInBounds_toArray, List.set_cons_zero, List.set_cons_succ]
        refine WL.val (by kernel_rfl) (vA) (by go_simp) ?_
        simp only [Act.put, List.setIfInBounds_toArray, List.set_cons_zero, List.set_cons_succ]
        refine WL.callF (by kernel_rfl) 83 _ _ rfl Try.in83 #[.agg (opA x2), vA] (by simp [Act.eval]) ?_
        refine (may_any x2 vA ah w5 HOk5.out (HA.out w5 HG5.out) HAl.out).mono ?_
        rintro e w6 ⟨rfl, h6⟩
        refine ⟨_, rfl, ?_⟩
        have HX6 := Keep.mk (HX5.out.below h6 HX5.out.lt)
        have HI6 : Keep (InAt w6 p s _ none) := ⟨HI5.out.blk.below h6 HI5.out.blk.lt, HI5.out.le⟩
        have HG6 : Keep (Grown w w6 fun k => k = p ∨ k = g) := ⟨HG5.out.trans (Grown.below h6)⟩
        clear h6
        simp only [Act.put, List.setIfInBounds_toArray, List.set_cons_zero, List.set_cons_succ]
        rcases Bool.eq_false_or_eq_true (!mayAt ah x2) with h11_5 | h11_5
        · have hmy : mayAt ah x2 = false := by simpa using h11_5
          refine WL.val (by kernel_rfl) (.bool true) (by go_simp) ?_
          simp only [Act.put, List.setIfInBounds_toArray, List.set_cons_zero, List.set_cons_succ]
          refine WL.nil ?_
          refine hK17 _ _ ?_
          refine wp_cond_true rfl ?_
          refine wp_seq_k fun K18 hK18 => ?_
          refine wp_region_list (WL.out ?_)
          refine WL.val (by kernel_rfl) (.int .i64 (a : Int)) (by go_simp) ?_
          simp only [Act.put, List.setIfInBounds_toArray, List.set_cons_zero, List.set_cons_succ]
          refine WL.bld (by kernel_rfl) 70 _ rfl [(0, .int .i64 42), (1, .int .i64 (a : Int))] (by simp [Act.eval]) #[.int .i64 42, .int .i64 (a : Int)] (by kernel_rfl) ?_
          simp only [Act.put, List.setIfInBounds_toArray, List.set_cons_zero, List.set_cons_succ]
          refine WL.box (by kernel_rfl) 70 (.tmp 50) rfl #[.int .i64 42, .int .i64 (a : Int)] rfl ?_
          simp only [Act.put, List.setIfInBounds_toArray, List.set_cons_zero, List.set_cons_succ]
          refine WL.val (by kernel_rfl) (.iface 68 (.pointer (some ⟨w6.heap.size, 0, none⟩))) (by go_simp) ?_
          simp only [Act.put, List.setIfInBounds_toArray, List.set_cons_zero, List.set_cons_succ]
          refine WL.val (by kernel_rfl) (.iface 68 (.pointer (some ⟨w6.heap.size, 0, none⟩))) (by go_simp) ?_
          simp only [Act.put, List.setIfInBounds_toArray, List.set_cons_zero, List.set_cons_succ]
          refine WL.nil ?_
          refine hK18 _ _ ?_
          refine wp_ret ?_
          go_ret
          exact ⟨err w6.heap.size, rfl, HG6.out.trans (Grown.alloc w6 _ _), by rw [HGn.out hE h6_1 hE2, ← hx2.out, if_neg (by rw [hmy]; decide)]; exact .inr ⟨(show (42 : Int) ≠ 0 by decide), _, HG6.out.size, rfl, Blk.new w6 70 _⟩⟩
        · have hmy : mayAt ah x2 = true := by simpa using h11_5
          refine WL.val (by kernel_rfl) (.bool false) (by go_simp) ?_
          simp only [Act.put, List.setIfInBounds_toArray, List.set_cons_zero, List.set_cons_succ]
          refine WL.nil ?_
          refine hK17 _ _ ?_
          refine wp_cond_false rfl ?_
          refine wp_skip ?_
          refine hK16 _ _ ?_
          refine wp_seq_k fun K19 hK19 => ?_
          refine wp_region_list (WL.out ?_)
          refine WL.val (by kernel_rfl) (.nilIface) (by go_simp) ?_
          simp only [Act.put, List.setIfInBounds_toArray, List.set_cons_zero, List.set_cons_succ]
          refine WL.nil ?_
          refine hK19 _ _ ?_
          refine wp_ret ?_
          go_ret
          exact ⟨.nilIface, rfl, HG6.out, by rw [HGn.out hE h6_1 hE2, ← hx2.out, if_pos hmy]; exact .inl ⟨rfl, rfl, by have h := HI6.out; rw [hN32 hE2] at h; exact h, HX6.out, HOk5.out⟩⟩
      · rcases I3.out with ⟨e1, _, _⟩ | ⟨_, q, hq, rfl, rfl, hbad⟩
        · exact absurd e1 hE2
        have Hbad := Keep.mk (hbad.below B4.out hbad.lt)
        have Hq := Keep.mk (Nat.le_trans HG2.out.size hq)
        clear hbad hq
        unfold err
        refine wp_region_list (WL.out ?_)
        refine WL.val (by kernel_rfl) (.iface 68 (ptr q)) (by go_simp) ?_
        simp only [Act.put, List.setIfInBounds_toArray, List.set_cons_zero, List.set_cons_succ]
        refine WL.val (by kernel_rfl) (.bool true) (by go_simp) ?_
        simp only [Act.put, List.setIfInBounds_toArray, List.set_cons_zero, List.set_cons_succ]
        refine WL.nil ?_
        refine hK15 _ _ ?_
        refine wp_cond_true rfl ?_
        refine wp_seq_k fun K20 hK20 => ?_
        refine wp_region_list (WL.out ?_)
        refine WL.val (by kernel_rfl) (.iface 68 (ptr q)) (by go_simp) ?_
        simp only [Act.put, List.setIfInBounds_toArray, List.set_cons_zero, List.set_cons_succ]
        refine WL.val (by kernel_rfl) (.iface 68 (ptr q)) (by go_simp) ?_
        simp only [Act.put, List.setIfInBounds_toArray, List.set_cons_zero, List.set_cons_succ]
        refine WL.nil ?_
        refine hK20 _ _ ?_
        refine wp_ret ?_
        go_ret
        exact ⟨err q, rfl, HG4.out, by rw [HGb.out hE h6_1 hE2]; exact .inr ⟨hE2, q, Hq.out, rfl, Hbad.out⟩⟩
  · rcases H3.out with ⟨e1, _, _⟩ | ⟨_, q, hq, rfl, rfl, hbad⟩
    · exact absurd e1 hE
    have Hbad := Keep.mk hbad
    clear hbad
    unfold err
    refine wp_region_list (WL.out ?_)
    refine WL.val (by kernel_rfl) (.iface 68 (ptr q)) (by go_simp) ?_
    simp only [Act.put, List.setIfInBounds_toArray, List.set_cons_zero, List.set_cons_succ]
    refine WL.val (by kernel_rfl) (.bool true) (by go_simp) ?_
    simp only [Act.put, List.setIfInBounds_toArray, List.set_cons_zero, List.set_cons_succ]
    refine WL.nil ?_
    refine hK5 _ _ ?_
    refine wp_cond_true rfl ?_
    refine wp_seq_k fun K21 hK21 => ?_
    refine wp_region_list (WL.out ?_)
    refine WL.val (by kernel_rfl) (.iface 68 (ptr q)) (by go_simp) ?_
    simp only [Act.put, List.setIfInBounds_toArray, List.set_cons_zero, List.set_cons_succ]
    refine WL.val (by kernel_rfl) (.iface 68 (ptr q)) (by go_simp) ?_
    simp only [Act.put, List.setIfInBounds_toArray, List.set_cons_zero, List.set_cons_succ]
    refine WL.nil ?_
    refine hK21 _ _ ?_
    refine wp_ret ?_
    go_ret
    exact ⟨err q, rfl, H2.out.mono fun _ _ h => .inl h, by rw [HG1.out hE]; exact .inr ⟨hE, q, hq, rfl, Hbad.out⟩⟩

end Go.Proofs.Ytgpgnldcdimmbaa
