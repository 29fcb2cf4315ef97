import Derived.Test.YtbkboebinhafhaaOpF
namespace Go.Proofs.Ytbkboebinhafhaa
open Go.RowKit
set_option linter.unusedSimpArgs false

/-! ### Laying operations. -/
def putF (i : Nat) (x : OpV) : List Int := if i = 0 then bform (lst x.key) else if i = 1 then bform (lst x.text) else if i = 2 then numL (zig x.n) else numL x.op.toNat ++ (if x.op = 0 then [] else hl 32 (hof x.node))
theorem OutAt.below {w w' : World} {p : Nat} {v : Value} {l : List Int} (h : OutAt w p v l) (hb : Below w.heap.size w w') : OutAt w' p v l :=
  h.grown (Grown.below (S := fun _ => False) hb) fun _ _ h => h
theorem OutAt.off {w : World} {p : Nat} {v : Value} {l : List Int} (h : OutAt w p v l) {g : Nat} {T : TypeId} {cs : Array Value} (hg : Blk w g T cs) (h1 : T ≠ 75) (h2 : T ≠ 5) : ¬ OF p v g := by
  rintro (rfl | e)
  · exact h1 (blk_type hg h.blk)
  · exact h.own.ne hg h2 e
theorem OutAt.offT {w : World} {p : Nat} {v : Value} {l : List Int} (h : OutAt w p v l) {m : Nat} (ht : TabAt w m) : ¬ OF p v m := by
  rintro (rfl | e)
  · exact ht.ne h.blk rfl
  · rcases h.own.form with ⟨rfl, _⟩ | ⟨g, cap, cur, rfl, hg, _⟩
    · simp [Value.ownBlock] at e
    · simp [Value.ownBlock] at e
      subst e
      exact ht.ne hg rfl
theorem OutAt.tab {w w' : World} {p : Nat} {v : Value} {l : List Int} (h : OutAt w p v l) {m : Nat} (ht : TabAt w m) (hg : Grown w w' (OF p v)) : TabAt w' m :=
  ht.grown hg (h.offT ht) fun _ _ hb => h.off hb (by decide) (by decide)
theorem OutAt.keeps {w w' : World} {p : Nat} {v : Value} {l : List Int} (h : OutAt w p v l) {g : Nat} {T : TypeId} {cs : Array Value} (hb : Blk w g T cs) (h1 : T ≠ 75) (h2 : T ≠ 5) (hg : Grown w w' (OF p v)) : Blk w' g T cs := hg.blk hb (h.off hb h1 h2)
theorem OutAt.fields {w w' : World} {p : Nat} {v : Value} {l : List Int} (h : OutAt w p v l) {u : Value} {is : List Nat} (hf : FieldsAt w u is) (hg : Grown w w' (OF p v)) : FieldsAt w' u is :=
  hf.grown hg fun _ hb => h.off hb (by decide) (by decide)
theorem put0_any (p : Nat) (v : Value) (l : List Int) (x : OpV) (w : World) (h : OutAt w p v l) (hx : OpOk x) (hb : l.length + (putF 0 x).length ≤ 200000000000000) :
    Calls Try.prog 66 #[ptr p, .agg (opA x)] w (OutPost p v (l ++ putF 0 x) w) := by
  have e : putF 0 x = bform (lst x.key) := rfl
  rw [e] at hb ⊢
  have HO : Keep (OutAt (w.alloc (.cells (opA x) 33)) p v l) := ⟨h.box _⟩
  have HB := Keep.mk (Blk.new w 33 (opA x))
  obtain ⟨w1, hw1⟩ : ∃ w1, Keep (w.alloc (.cells (opA x) 33) = w1) := ⟨_, ⟨rfl⟩⟩
  rw [hw1.out] at HB HO
  have Hb := Keep.mk hb
  have Hx := Keep.mk hx
  have c1 := HB.out.c 1 (opA_1 x)
  clear h hb hx e
  go_enter Try.func66, Try.ntmps66
  refine wp_seq_k fun K1 hK1 => ?_
  refine wp_region_list (WL.out ?_)
  refine WL.box (by kernel_rfl) 33 (.tmp 1) rfl (opA x) rfl ?_
  rw [hw1.out]
  simp only [Act.put, List.setIfInBounds_toArray, List.set_cons_zero, List.set_cons_succ]
  refine WL.nil ?_
  refine hK1 _ _ ?_
  refine wp_region_list (WL.out ?_)
  refine WL.val (by kernel_rfl) (.pointer (some ⟨p, 0, none⟩)) (by go_simp) ?_
  simp only [Act.put, List.setIfInBounds_toArray, List.set_cons_zero, List.set_cons_succ]
  refine WL.val (by kernel_rfl) (.pointer (some ⟨w.heap.size, 1, none⟩)) (by go_simp) ?_
  simp only [Act.put, List.setIfInBounds_toArray, List.set_cons_zero, List.set_cons_succ]
  refine WL.val (by kernel_rfl) (.string x.key) (by go_simp) ?_
  simp only [Act.put, List.setIfInBounds_toArray, List.set_cons_zero, List.set_cons_succ]
  refine WL.callF (by kernel_rfl) 67 _ _ rfl Try.in67 #[ptr p, .string x.key] (by simp [Act.eval]) ?_
  refine (otext_any p v l x.key w1 HO.out Hb.out Hx.out.key).mono ?_
  rintro e w2 hp
  obtain ⟨rfl, hq⟩ := hp
  refine ⟨_, rfl, ?_⟩
  have HP := Keep.mk hq
  clear hq
  simp only [Act.put, List.setIfInBounds_toArray, List.set_cons_zero, List.set_cons_succ]
  refine WL.nil ?_
  go_end0
  exact OutPost.box (o := .cells (opA x) 33) (by rw [hw1.out]; exact ⟨rfl, HP.out⟩)
theorem put1_any (p : Nat) (v : Value) (l : List Int) (x : OpV) (w : World) (h : OutAt w p v l) (hx : OpOk x) (hb : l.length + (putF 1 x).length ≤ 200000000000000) :
    Calls Try.prog 71 #[ptr p, .agg (opA x)] w (OutPost p v (l ++ putF 1 x) w) := by
  have e : putF 1 x = bform (lst x.text) := rfl
  rw [e] at hb ⊢
  have HO : Keep (OutAt (w.alloc (.cells (opA x) 33)) p v l) := ⟨h.box _⟩
  have HB := Keep.mk (Blk.new w 33 (opA x))
  obtain ⟨w1, hw1⟩ : ∃ w1, Keep (w.alloc (.cells (opA x) 33) = w1) := ⟨_, ⟨rfl⟩⟩
  rw [hw1.out] at HB HO
  have Hb := Keep.mk hb
  have Hx := Keep.mk hx
  have c1 := HB.out.c 2 (opA_2 x)
  clear h hb hx e
  go_enter Try.func71, Try.ntmps71
  refine wp_seq_k fun K1 hK1 => ?_
  refine wp_region_list (WL.out ?_)
  refine WL.box (by kernel_rfl) 33 (.tmp 1) rfl (opA x) rfl ?_
  rw [hw1.out]
  simp only [Act.put, List.setIfInBounds_toArray, List.set_cons_zero, List.set_cons_succ]
  refine WL.nil ?_
  refine hK1 _ _ ?_
  refine wp_region_list (WL.out ?_)
  refine WL.val (by kernel_rfl) (.pointer (some ⟨p, 0, none⟩)) (by go_simp) ?_
  simp only [Act.put, List.setIfInBounds_toArray, List.set_cons_zero, List.set_cons_succ]
  refine WL.val (by kernel_rfl) (.pointer (some ⟨w.heap.size, 2, none⟩)) (by go_simp) ?_
  simp only [Act.put, List.setIfInBounds_toArray, List.set_cons_zero, List.set_cons_succ]
  refine WL.val (by kernel_rfl) (.string x.text) (by go_simp) ?_
  simp only [Act.put, List.setIfInBounds_toArray, List.set_cons_zero, List.set_cons_succ]
  refine WL.callF (by kernel_rfl) 67 _ _ rfl Try.in67 #[ptr p, .string x.text] (by simp [Act.eval]) ?_
  refine (otext_any p v l x.text w1 HO.out Hb.out Hx.out.text).mono ?_
  rintro e w2 hp
  obtain ⟨rfl, hq⟩ := hp
  refine ⟨_, rfl, ?_⟩
  have HP := Keep.mk hq
  clear hq
  simp only [Act.put, List.setIfInBounds_toArray, List.set_cons_zero, List.set_cons_succ]
  refine WL.nil ?_
  go_end0
  exact OutPost.box (o := .cells (opA x) 33) (by rw [hw1.out]; exact ⟨rfl, HP.out⟩)
theorem put2_any (p : Nat) (v : Value) (l : List Int) (x : OpV) (w : World) (h : OutAt w p v l) (hx : OpOk x) (hb : l.length + (putF 2 x).length ≤ 200000000000000) :
    Calls Try.prog 74 #[ptr p, .agg (opA x)] w (OutPost p v (l ++ putF 2 x) w) := by
  have e : putF 2 x = numL (zig x.n) := rfl
  rw [e] at hb ⊢
  have HO : Keep (OutAt (w.alloc (.cells (opA x) 33)) p v l) := ⟨h.box _⟩
  have HB := Keep.mk (Blk.new w 33 (opA x))
  obtain ⟨w1, hw1⟩ : ∃ w1, Keep (w.alloc (.cells (opA x) 33) = w1) := ⟨_, ⟨rfl⟩⟩
  rw [hw1.out] at HB HO
  have Hb := Keep.mk hb
  have Hx := Keep.mk hx
  have c1 := HB.out.c 3 (opA_3 x)
  clear h hb hx e
  go_enter Try.func74, Try.ntmps74
  refine wp_seq_k fun K1 hK1 => ?_
  refine wp_region_list (WL.out ?_)
  refine WL.box (by kernel_rfl) 33 (.tmp 1) rfl (opA x) rfl ?_
  rw [hw1.out]
  simp only [Act.put, List.setIfInBounds_toArray, List.set_cons_zero, List.set_cons_succ]
  refine WL.nil ?_
  refine hK1 _ _ ?_
  refine wp_region_list (WL.out ?_)
  refine WL.val (by kernel_rfl) (.pointer (some ⟨p, 0, none⟩)) (by go_simp) ?_
  simp only [Act.put, List.setIfInBounds_toArray, List.set_cons_zero, List.set_cons_succ]
  refine WL.val (by kernel_rfl) (.pointer (some ⟨w.heap.size, 3, none⟩)) (by go_simp) ?_
  simp only [Act.put, List.setIfInBounds_toArray, List.set_cons_zero, List.set_cons_succ]
  refine WL.val (by kernel_rfl) (.int .i64 x.n) (by go_simp) ?_
  simp only [Act.put, List.setIfInBounds_toArray, List.set_cons_zero, List.set_cons_succ]
  refine WL.callF (by kernel_rfl) 75 _ _ rfl Try.in75 #[ptr p, .int .i64 x.n] (by simp [Act.eval]) ?_
  refine (osigned_any p v l x.n w1 HO.out Hx.out.n1 Hx.out.n2 (by have := Hb.out; rw [List.length_append]; exact this)).mono ?_
  rintro e w2 hp
  obtain ⟨rfl, hq⟩ := hp
  refine ⟨_, rfl, ?_⟩
  have HP := Keep.mk hq
  clear hq
  simp only [Act.put, List.setIfInBounds_toArray, List.set_cons_zero, List.set_cons_succ]
  refine WL.nil ?_
  go_end0
  exact OutPost.box (o := .cells (opA x) 33) (by rw [hw1.out]; exact ⟨rfl, HP.out⟩)
theorem put3_any (p : Nat) (v : Value) (l : List Int) (x : OpV) (w : World) (h : OutAt w p v l) (hx : OpOk x) (ho1 : 0 ≤ x.op) (ho2 : x.op ≤ 1024) (hb : l.length + (putF 3 x).length ≤ 200000000000000) :
    Calls Try.prog 79 #[ptr p, .agg (opA x)] w (OutPost p v (l ++ putF 3 x) w) := by
  obtain ⟨n, hn⟩ : ∃ n : Nat, x.op = (n : Int) := ⟨x.op.toNat, by omega⟩
  have e : putF 3 x = numL n ++ (if x.op = 0 then [] else hl 32 (hof x.node)) := by
    show numL x.op.toNat ++ _ = _
    rw [hn, Int.toNat_natCast]
  rw [e] at hb ⊢
  have HO : Keep (OutAt (w.alloc (.cells (opA x) 33)) p v l) := ⟨h.box _⟩
  have HB := Keep.mk (Blk.new w 33 (opA x))
  obtain ⟨w1, hw1⟩ : ∃ w1, Keep (w.alloc (.cells (opA x) 33) = w1) := ⟨_, ⟨rfl⟩⟩
  rw [hw1.out] at HB HO
  have Hb := Keep.mk hb
  have Hx := Keep.mk hx
  have c36 := HB.out.c 36 (opA_36 x)
  have Hn : Keep (n ≤ 1024) := ⟨by omega⟩
  have hwn : IntKind.u64.wrap x.op = (n : Int) := by rw [hn, IntKind.wrap_u64]; have := Hn.out; omega
  rw [List.length_append] at Hb
  clear h hb hx e
  go_enter Try.func79, Try.ntmps79
  by_cases h0 : x.op = 0
  · rw [if_pos h0] at Hb ⊢
    rw [h0] at hwn
    clear hn
    refine wp_seq_k fun K1 hK1 => ?_
    refine wp_region_list (WL.out ?_)
    refine WL.box (by kernel_rfl) 33 (.tmp 1) rfl (opA x) rfl ?_
    rw [hw1.out]
    simp only [Act.put, List.setIfInBounds_toArray, List.set_cons_zero, List.set_cons_succ]
    refine WL.nil ?_
    refine hK1 _ _ ?_
    refine wp_seq_k fun K2 hK2 => ?_
    refine wp_region_list (WL.out ?_)
    refine WL.val (by kernel_rfl) (.pointer (some ⟨p, 0, none⟩)) (by go_simp) ?_
    simp only [Act.put, List.setIfInBounds_toArray, List.set_cons_zero, List.set_cons_succ]
    refine WL.val (by kernel_rfl) (.pointer (some ⟨w.heap.size, 4, none⟩)) (by go_simp) ?_
    simp only [Act.put, List.setIfInBounds_toArray, List.set_cons_zero, List.set_cons_succ]
    refine WL.val (by kernel_rfl) (.pointer (some ⟨w.heap.size, 36, none⟩)) (by go_simp) ?_
    simp only [Act.put, List.setIfInBounds_toArray, List.set_cons_zero, List.set_cons_succ]
    refine WL.val (by kernel_rfl) (.int .i64 x.op) (by go_simp) ?_
    simp only [Act.put, List.setIfInBounds_toArray, List.set_cons_zero, List.set_cons_succ]
    refine WL.val (by kernel_rfl) (.int .u64 (n : Int)) (by go_simp) ?_
    simp only [Act.put, List.setIfInBounds_toArray, List.set_cons_zero, List.set_cons_succ]
    refine WL.callF (by kernel_rfl) 37 _ _ rfl Try.in37 #[ptr p, .int .u64 (n : Int)] (by simp [Act.eval]) ?_
    refine (onum_any p v l n w1 HO.out (by have := Hn.out; omega) (by have := Hb.out; rw [List.length_append]; omega)).mono ?_
    rintro e w2 hp
    obtain ⟨rfl, v2, hO2, hm2, hg2⟩ := hp
    refine ⟨_, rfl, ?_⟩
    have HO2 := Keep.mk hO2
    have HM2 := Keep.mk hm2
    have HG2 := Keep.mk hg2
    have HB2 := Keep.mk (HO.out.keeps HB.out (by decide) (by decide) hg2)
    have d36 := HB2.out.c 36 (opA_36 x)
    clear hO2 hm2 hg2
    simp only [Act.put, List.setIfInBounds_toArray, List.set_cons_zero, List.set_cons_succ]
    refine WL.nil ?_
    refine hK2 _ _ ?_
    refine wp_seq_k fun K3 hK3 => ?_
    refine wp_region_list (WL.out ?_)
    refine WL.val (by kernel_rfl) (.pointer (some ⟨w.heap.size, 4, none⟩)) (by go_simp) ?_
    simp only [Act.put, List.setIfInBounds_toArray, List.set_cons_zero, List.set_cons_succ]
    refine WL.val (by kernel_rfl) (.pointer (some ⟨w.heap.size, 36, none⟩)) (by go_simp) ?_
    simp only [Act.put, List.setIfInBounds_toArray, List.set_cons_zero, List.set_cons_succ]
    refine WL.val (by kernel_rfl) (.int .i64 x.op) (by go_simp) ?_
    simp only [Act.put, List.setIfInBounds_toArray, List.set_cons_zero, List.set_cons_succ]
    refine WL.val (by kernel_rfl) (.bool false) (by go_simp) ?_
    simp only [Act.put, List.setIfInBounds_toArray, List.set_cons_zero, List.set_cons_succ]
    refine WL.nil ?_
    refine hK3 _ _ ?_
    refine wp_cond_false rfl ?_
    refine wp_skip ?_
    go_end0
    exact OutPost.box (o := .cells (opA x) 33) (by rw [hw1.out, List.append_nil]; exact ⟨rfl, v2, HO2.out, HM2.out, HG2.out⟩)
  · rw [if_neg h0, hl_len] at Hb
    rw [if_neg h0]
    clear hn
    refine wp_seq_k fun K1 hK1 => ?_
    refine wp_region_list (WL.out ?_)
    refine WL.box (by kernel_rfl) 33 (.tmp 1) rfl (opA x) rfl ?_
    rw [hw1.out]
    simp only [Act.put, List.setIfInBounds_toArray, List.set_cons_zero, List.set_cons_succ]
    refine WL.nil ?_
    refine hK1 _ _ ?_
    refine wp_seq_k fun K2 hK2 => ?_
    refine wp_region_list (WL.out ?_)
    refine WL.val (by kernel_rfl) (.pointer (some ⟨p, 0, none⟩)) (by go_simp) ?_
    simp only [Act.put, List.setIfInBounds_toArray, List.set_cons_zero, List.set_cons_succ]
    refine WL.val (by kernel_rfl) (.pointer (some ⟨w.heap.size, 4, none⟩)) (by go_simp) ?_
    simp only [Act.put, List.setIfInBounds_toArray, List.set_cons_zero, List.set_cons_succ]
    refine WL.val (by kernel_rfl) (.pointer (some ⟨w.heap.size, 36, none⟩)) (by go_simp) ?_
    simp only [Act.put, List.setIfInBounds_toArray, List.set_cons_zero, List.set_cons_succ]
    refine WL.val (by kernel_rfl) (.int .i64 x.op) (by go_simp) ?_
    simp only [Act.put, List.setIfInBounds_toArray, List.set_cons_zero, List.set_cons_succ]
    refine WL.val (by kernel_rfl) (.int .u64 (n : Int)) (by go_simp) ?_
    simp only [Act.put, List.setIfInBounds_toArray, List.set_cons_zero, List.set_cons_succ]
    refine WL.callF (by kernel_rfl) 37 _ _ rfl Try.in37 #[ptr p, .int .u64 (n : Int)] (by simp [Act.eval]) ?_
    refine (onum_any p v l n w1 HO.out (by have := Hn.out; omega) (by have := Hb.out; rw [List.length_append]; omega)).mono ?_
    rintro e w2 hp
    obtain ⟨rfl, v2, hO2, hm2, hg2⟩ := hp
    refine ⟨_, rfl, ?_⟩
    have HO2 := Keep.mk hO2
    have HM2 := Keep.mk hm2
    have HG2 := Keep.mk hg2
    have HB2 := Keep.mk (HO.out.keeps HB.out (by decide) (by decide) hg2)
    have d36 := HB2.out.c 36 (opA_36 x)
    clear hO2 hm2 hg2
    simp only [Act.put, List.setIfInBounds_toArray, List.set_cons_zero, List.set_cons_succ]
    refine WL.nil ?_
    refine hK2 _ _ ?_
    refine wp_seq_k fun K3 hK3 => ?_
    refine wp_region_list (WL.out ?_)
    refine WL.val (by kernel_rfl) (.pointer (some ⟨w.heap.size, 4, none⟩)) (by go_simp) ?_
    simp only [Act.put, List.setIfInBounds_toArray, List.set_cons_zero, List.set_cons_succ]
    refine WL.val (by kernel_rfl) (.pointer (some ⟨w.heap.size, 36, none⟩)) (by go_simp) ?_
    simp only [Act.put, List.setIfInBounds_toArray, List.set_cons_zero, List.set_cons_succ]
    refine WL.val (by kernel_rfl) (.int .i64 x.op) (by go_simp) ?_
    simp only [Act.put, List.setIfInBounds_toArray, List.set_cons_zero, List.set_cons_succ]
    refine WL.val (by kernel_rfl) (.bool true) (by go_simp) ?_
    simp only [Act.put, List.setIfInBounds_toArray, List.set_cons_zero, List.set_cons_succ]
    refine WL.nil ?_
    refine hK3 _ _ ?_
    refine wp_cond_true rfl ?_
    refine wp_region_list (WL.out ?_)
    refine WL.val (by kernel_rfl) (.pointer (some ⟨p, 0, none⟩)) (by go_simp) ?_
    simp only [Act.put, List.setIfInBounds_toArray, List.set_cons_zero, List.set_cons_succ]
    refine WL.val (by kernel_rfl) (.pointer (some ⟨w.heap.size, 4, none⟩)) (by go_simp) ?_
    simp only [Act.put, List.setIfInBounds_toArray, List.set_cons_zero, List.set_cons_succ]
    refine WL.val (by kernel_rfl) (.pointer (some ⟨w.heap.size, 4, none⟩)) (by go_simp) ?_
    simp only [Act.put, List.setIfInBounds_toArray, List.set_cons_zero, List.set_cons_succ]
    refine WL.midA (by kernel_rfl) 29 (.tmp 16) rfl w.heap.size 4 rfl (bytesA 32 (hof x.node)) _ (opA_nodes HB2.out) Try.underlying29 rfl (Try.size29B _) ?_
    simp only [Act.put, List.setIfInBounds_toArray, List.set_cons_zero, List.set_cons_succ]
    refine WL.callF (by kernel_rfl) 85 _ _ rfl Try.in85 #[ptr p, .agg (bytesA 32 (hof x.node))] (by simp [Act.eval]) ?_
    refine (ohash_any p v2 (l ++ numL n) (hof x.node) w2 HO2.out (by have := Hb.out; rw [List.length_append]; omega)).mono ?_
    rintro e w3 hp
    obtain ⟨rfl, hq⟩ := hp
    refine ⟨_, rfl, ?_⟩
    have HP := Keep.mk hq
    clear hq
    simp only [Act.put, List.setIfInBounds_toArray, List.set_cons_zero, List.set_cons_succ]
    refine WL.nil ?_
    go_end0
    exact OutPost.box (o := .cells (opA x) 33) (by rw [hw1.out, ← List.append_assoc]; exact OutPost.trans HM2.out HG2.out ⟨rfl, HP.out⟩)

def oneF (x : OpV) : List Int := x.kind :: (hasI x.kind).flatMap fun i => putF i x
def formL (l : List OpV) : List Int := numL l.length ++ l.flatMap oneF
end Go.Proofs.Ytbkboebinhafhaa
