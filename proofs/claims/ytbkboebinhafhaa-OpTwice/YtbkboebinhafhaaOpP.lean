import Derived.Test.YtbkboebinhafhaaOpI
namespace Go.Proofs.Ytbkboebinhafhaa
open Go.RowKit
set_option linter.unusedSimpArgs false

/-! ### Reading operations. -/
/-- An At, read from byte a on. -/
def getA (L : List Int) (ah : List OpV) (x : OpV) (a : Nat) : Int × Nat × OpV :=
  if (fstM (L.drop a) 1024).2.2 ≠ 0 then ((fstM (L.drop a) 1024).2.2, a + (fstM (L.drop a) 1024).2.1.toNat, x)
  else if (fstM (L.drop a) 1024).1 = 0 then
    (if mayAt ah { x with op := 0 } = true then (0, a + (fstM (L.drop a) 1024).2.1.toNat, { x with op := 0 }) else (42, a, x))
  else if nextW (L.drop (a + (fstM (L.drop a) 1024).2.1.toNat)) 32 ≠ 0 then (nextW (L.drop (a + (fstM (L.drop a) 1024).2.1.toNat)) 32, a + (fstM (L.drop a) 1024).2.1.toNat + nextN (L.drop (a + (fstM (L.drop a) 1024).2.1.toNat)) 32, x)
  else (if mayAt ah { x with op := (fstM (L.drop a) 1024).1, node := (L.drop (a + (fstM (L.drop a) 1024).2.1.toNat)).take 32 } = true then (0, a + (fstM (L.drop a) 1024).2.1.toNat + 32, { x with op := (fstM (L.drop a) 1024).1, node := (L.drop (a + (fstM (L.drop a) 1024).2.1.toNat)).take 32 }) else (42, a, x))
/-- A field, read from byte a on: the error (0: none), the byte behind it or the error's place, the operation. -/
def getF (L : List Int) (ah : List OpV) (i : Nat) (x : OpV) (a : Nat) : Int × Nat × OpV :=
  if i = 0 then ((byt (L.drop a) 65536).1, a + (byt (L.drop a) 65536).2.1, { x with key := strOfNums (byt (L.drop a) 65536).2.2 })
  else if i = 1 then ((byt (L.drop a) 65536).1, a + (byt (L.drop a) 65536).2.1, { x with text := strOfNums (byt (L.drop a) 65536).2.2 })
  else if i = 2 then ((fstM (L.drop a) 18446744073709551615).2.2, a + (fstM (L.drop a) 18446744073709551615).2.1.toNat, { x with n := if (fstM (L.drop a) 18446744073709551615).2.2 = 0 then zag (fstM (L.drop a) 18446744073709551615).1 else 0 })
  else getA L ah x a
def GetPost (p g : Nat) (s : ByteArray) (R : Int × Nat × OpV) (w : World) (e : Ending) (w' : World) : Prop :=
  ∃ er, e = .returned er ∧ (Grown w w' fun k => k = p ∨ k = g) ∧
    ((R.1 = 0 ∧ er = .nilIface ∧ InAt w' p s R.2.1 none ∧ Blk w' g 33 (opA R.2.2) ∧ OpOk R.2.2) ∨ (R.1 ≠ 0 ∧ ∃ q, w.heap.size ≤ q ∧ er = err q ∧ BadAt w' q R.1 R.2.1))
theorem byt_l (D : List Int) (mm : Int) : (byt D mm).2.2.length ≤ D.length ∧ (Byts D → Byts (byt D mm).2.2) := by
  unfold byt
  split
  · exact ⟨by simp only [List.length_take, List.length_drop]; omega, fun h => (h.drop _).take _⟩
  · exact ⟨by simp, fun _ => Byts.nil⟩
theorem str_size {l : List Int} (h : Byts l) : (strOfNums l).size = l.length := by rw [← lst_len, lst_nums h]
theorem fst_rng (D : List Int) (hD : Byts D) (mm : Int) (hmm : 0 ≤ mm) : 0 ≤ (fstM D mm).1 ∧ (fstM D mm).1 ≤ mm := by
  by_cases h : (fstM D mm).2.2 = 0
  · exact fstM_le D mm hD h
  · have := ((fstM_shape D mm).1 h).1; omega
theorem err_step {w w1 w' : World} {why : Int} {a : Nat} {bad : Option Nat} {er : Value} (h : ErrAs w w1 why a bad er) (hk : ∀ q, BadAt w1 q why a → BadAt w' q why a) :
    (why = 0 ∧ er = .nilIface ∧ bad = none) ∨ (why ≠ 0 ∧ ∃ q, w.heap.size ≤ q ∧ er = err q ∧ BadAt w' q why a) := by
  rcases h with ⟨h1, h2, h3⟩ | ⟨h1, q, h2, h3, h4, h5⟩
  · exact .inl ⟨h1, h3, h2⟩
  · exact .inr ⟨h1, q, h2, h4, hk q h5⟩
theorem get0_any (p g : Nat) (s : ByteArray) (a : Nat) (x : OpV) (vA : Value) (ah : List OpV) (w : World) (hI : InAt w p s a none) (hb : s.size ≤ 140737488355328) (hX : Blk w g 33 (opA x)) (hx : OpOk x) :
    Calls Try.prog 68 #[ptr p, ptr g, vA] w (GetPost p g s (getF (lst s) ah 0 x a) w) := by
  have HI := Keep.mk hI
  have HX := Keep.mk hX
  have Hne : Keep (p ≠ g) := ⟨blk_ne hI.blk hX (by decide)⟩
  obtain ⟨D, hD⟩ : ∃ D, D = (lst s).drop a := ⟨_, rfl⟩
  obtain ⟨W, hW⟩ : ∃ W, W = (byt D ((65536 : Nat) : Int)).1 := ⟨_, rfl⟩
  obtain ⟨N, hN⟩ : ∃ N, N = (byt D ((65536 : Nat) : Int)).2.1 := ⟨_, rfl⟩
  obtain ⟨l, hl⟩ : ∃ l, l = (byt D ((65536 : Nat) : Int)).2.2 := ⟨_, rfl⟩
  obtain ⟨st, hst⟩ : ∃ st, st = strOfNums l := ⟨_, rfl⟩
  have hG : getF (lst s) ah 0 x a = (W, a + N, { x with key := st }) := by
    show ((byt ((lst s).drop a) 65536).1, a + (byt ((lst s).drop a) 65536).2.1, _) = _
    rw [hst, hl, hW, hN, hD]; rfl
  have HC := Keep.mk (itext_good p s a 65536 65536 (by decide) w hI hb (by decide) D hD W hW N hN l hl st hst)
  have hsz : st.size ≤ 140737488355328 := by
    have hby : Byts D := by rw [hD]; exact (lst_byts s).drop a
    have hl2 := byt_l D ((65536 : Nat) : Int)
    rw [hst, str_size (by rw [hl]; exact hl2.2 hby), hl]
    have h1 := hl2.1
    have h2 : D.length ≤ s.size := by rw [hD, List.length_drop, lst_len]; omega
    omega
  have HOk : Keep (OpOk { x with key := st }) := ⟨{ hx with key := hsz }⟩
  clear hD hW hN hl hst
  have HGk := Keep.mk hG
  clear hI hb hX hx hG
  have hG := HGk.out
  clear hG
  go_enter Try.func68, Try.ntmps68
  refine wp_seq_k fun K1 hK1 => ?_
  refine wp_region_list (WL.out ?_)
  refine WL.val (by kernel_rfl) (.nilIface) (by go_simp) ?_
  simp only [Act.put, List.setIfInBounds_toArray, List.set_cons_zero, List.set_cons_succ]
  refine WL.nil ?_
  refine hK1 _ _ ?_
  refine wp_seq_k fun K2 hK2 => ?_
  refine wp_region_list (WL.out ?_)
  refine WL.val (by kernel_rfl) (.pointer (some ⟨p, 0, none⟩)) (by go_simp) ?_
  simp only [Act.put, List.setIfInBounds_toArray, List.set_cons_zero, List.set_cons_succ]
  refine WL.callF (by kernel_rfl) 69 _ _ rfl Try.in69 #[ptr p, .int .i64 65536] (by simp [Act.eval]) ?_
  refine (HC.out).mono ?_
  rintro e w1 ⟨bad, er, rfl, h1, h2, h3⟩
  refine ⟨_, rfl, ?_⟩
  have H1 := Keep.mk h1
  have H2 := Keep.mk h2
  have H3 := Keep.mk h3
  have HX1 := Keep.mk (h2.blk HX.out (fun e => Hne.out e.symm))
  have c1 := HX1.out.c 1 (opA_1 x)
  have f1 := HX1.out.frozen 1
  clear h1 h2 h3
  simp only [Act.put, List.setIfInBounds_toArray, List.set_cons_zero, List.set_cons_succ]
  refine WL.val (by kernel_rfl) (.tuple #[.string st, er]) (by go_simp) ?_
  simp only [Act.put, List.setIfInBounds_toArray, List.set_cons_zero, List.set_cons_succ]
  refine WL.val (by kernel_rfl) (.string st) (by go_simp) ?_
  simp only [Act.put, List.setIfInBounds_toArray, List.set_cons_zero, List.set_cons_succ]
  refine WL.val (by kernel_rfl) (er) (by go_simp) ?_
  simp only [Act.put, List.setIfInBounds_toArray, List.set_cons_zero, List.set_cons_succ]
  refine WL.val (by kernel_rfl) (.string st) (by go_simp) ?_
  simp only [Act.put, List.setIfInBounds_toArray, List.set_cons_zero, List.set_cons_succ]
  refine WL.val (by kernel_rfl) (er) (by go_simp) ?_
  simp only [Act.put, List.setIfInBounds_toArray, List.set_cons_zero, List.set_cons_succ]
  refine WL.nil ?_
  refine hK2 _ _ ?_
  refine wp_seq_k fun K3 hK3 => ?_
  refine wp_region_list (WL.out ?_)
  refine WL.val (by kernel_rfl) (.pointer (some ⟨g, 0, none⟩)) (by go_simp) ?_
  simp only [Act.put, List.setIfInBounds_toArray, List.set_cons_zero, List.set_cons_succ]
  refine WL.val (by kernel_rfl) (.string st) (by go_simp) ?_
  simp only [Act.put, List.setIfInBounds_toArray, List.set_cons_zero, List.set_cons_succ]
  refine WL.val (by kernel_rfl) (.pointer (some ⟨g, 0, none⟩)) (by go_simp) ?_
  simp only [Act.put, List.setIfInBounds_toArray, List.set_cons_zero, List.set_cons_succ]
  refine WL.val (by kernel_rfl) (.pointer (some ⟨g, 1, none⟩)) (by go_simp) ?_
  simp only [Act.put, List.setIfInBounds_toArray, List.set_cons_zero, List.set_cons_succ]
  refine WL.cell (by kernel_rfl) (w1.setCell ⟨g, 1, none⟩ (.string st)) (by go_simp) ?_
  simp only [Act.put]
  refine WL.nil ?_
  refine hK3 _ _ ?_
  refine wp_seq_k fun K4 hK4 => ?_
  refine wp_region_list (WL.out ?_)
  refine WL.val (by kernel_rfl) (er) (by go_simp) ?_
  simp only [Act.put, List.setIfInBounds_toArray, List.set_cons_zero, List.set_cons_succ]
  refine WL.val (by kernel_rfl) (er) (by go_simp) ?_
  simp only [Act.put, List.setIfInBounds_toArray, List.set_cons_zero, List.set_cons_succ]
  refine WL.nil ?_
  refine hK4 _ _ ?_
  refine wp_ret ?_
  go_ret
  have hXn := HX1.out.set 1 (.string st)
  rw [set_1] at hXn
  refine ⟨er, rfl, ?_, ?_⟩
  · exact (H2.out.mono fun _ _ h => .inl h).trans (Grown.setCell w1 g 1 _ fun _ => .inr rfl)
  · rw [HGk.out]
    rcases err_step H3.out (w' := w1.setCell ⟨g, 1, none⟩ (.string st)) (fun q hq => hq.set_ne (blk_ne hq HX1.out (by decide)) _) with ⟨h1, h2, h3⟩ | h
    · subst h3
      exact .inl ⟨h1, h2, ⟨H1.out.blk.set_ne (fun e => Hne.out e) _, H1.out.le⟩, hXn, HOk.out⟩
    · exact .inr h
theorem get1_any (p g : Nat) (s : ByteArray) (a : Nat) (x : OpV) (vA : Value) (ah : List OpV) (w : World) (hI : InAt w p s a none) (hb : s.size ≤ 140737488355328) (hX : Blk w g 33 (opA x)) (hx : OpOk x) :
    Calls Try.prog 72 #[ptr p, ptr g, vA] w (GetPost p g s (getF (lst s) ah 1 x a) w) := by
  have HI := Keep.mk hI
  have HX := Keep.mk hX
  have Hne : Keep (p ≠ g) := ⟨blk_ne hI.blk hX (by decide)⟩
  obtain ⟨D, hD⟩ : ∃ D, D = (lst s).drop a := ⟨_, rfl⟩
  obtain ⟨W, hW⟩ : ∃ W, W = (byt D ((65536 : Nat) : Int)).1 := ⟨_, rfl⟩
  obtain ⟨N, hN⟩ : ∃ N, N = (byt D ((65536 : Nat) : Int)).2.1 := ⟨_, rfl⟩
  obtain ⟨l, hl⟩ : ∃ l, l = (byt D ((65536 : Nat) : Int)).2.2 := ⟨_, rfl⟩
  obtain ⟨st, hst⟩ : ∃ st, st = strOfNums l := ⟨_, rfl⟩
  have hG : getF (lst s) ah 1 x a = (W, a + N, { x with text := st }) := by
    show ((byt ((lst s).drop a) 65536).1, a + (byt ((lst s).drop a) 65536).2.1, _) = _
    rw [hst, hl, hW, hN, hD]; rfl
  have HC := Keep.mk (itext_good p s a 65536 65536 (by decide) w hI hb (by decide) D hD W hW N hN l hl st hst)
  have hsz : st.size ≤ 140737488355328 := by
    have hby : Byts D := by rw [hD]; exact (lst_byts s).drop a
    have hl2 := byt_l D ((65536 : Nat) : Int)
    rw [hst, str_size (by rw [hl]; exact hl2.2 hby), hl]
    have h1 := hl2.1
    have h2 : D.length ≤ s.size := by rw [hD, List.length_drop, lst_len]; omega
    omega
  have HOk : Keep (OpOk { x with text := st }) := ⟨{ hx with text := hsz }⟩
  clear hD hW hN hl hst
  have HGk := Keep.mk hG
  clear hI hb hX hx hG
  have hG := HGk.out
  clear hG
  go_enter Try.func72, Try.ntmps72
  refine wp_seq_k fun K1 hK1 => ?_
  refine wp_region_list (WL.out ?_)
  refine WL.val (by kernel_rfl) (.nilIface) (by go_simp) ?_
  simp only [Act.put, List.setIfInBounds_toArray, List.set_cons_zero, List.set_cons_succ]
  refine WL.nil ?_
  refine hK1 _ _ ?_
  refine wp_seq_k fun K2 hK2 => ?_
  refine wp_region_list (WL.out ?_)
  refine WL.val (by kernel_rfl) (.pointer (some ⟨p, 0, none⟩)) (by go_simp) ?_
  simp only [Act.put, List.setIfInBounds_toArray, List.set_cons_zero, List.set_cons_succ]
  refine WL.callF (by kernel_rfl) 69 _ _ rfl Try.in69 #[ptr p, .int .i64 65536] (by simp [Act.eval]) ?_
  refine (HC.out).mono ?_
  rintro e w1 ⟨bad, er, rfl, h1, h2, h3⟩
  refine ⟨_, rfl, ?_⟩
  have H1 := Keep.mk h1
  have H2 := Keep.mk h2
  have H3 := Keep.mk h3
  have HX1 := Keep.mk (h2.blk HX.out (fun e => Hne.out e.symm))
  have c1 := HX1.out.c 2 (opA_2 x)
  have f1 := HX1.out.frozen 2
  clear h1 h2 h3
  simp only [Act.put, List.setIfInBounds_toArray, List.set_cons_zero, List.set_cons_succ]
  refine WL.val (by kernel_rfl) (.tuple #[.string st, er]) (by go_simp) ?_
  simp only [Act.put, List.setIfInBounds_toArray, List.set_cons_zero, List.set_cons_succ]
  refine WL.val (by kernel_rfl) (.string st) (by go_simp) ?_
  simp only [Act.put, List.setIfInBounds_toArray, List.set_cons_zero, List.set_cons_succ]
  refine WL.val (by kernel_rfl) (er) (by go_simp) ?_
  simp only [Act.put, List.setIfInBounds_toArray, List.set_cons_zero, List.set_cons_succ]
  refine WL.val (by kernel_rfl) (.string st) (by go_simp) ?_
  simp only [Act.put, List.setIfInBounds_toArray, List.set_cons_zero, List.set_cons_succ]
  refine WL.val (by kernel_rfl) (er) (by go_simp) ?_
  simp only [Act.put, List.setIfInBounds_toArray, List.set_cons_zero, List.set_cons_succ]
  refine WL.nil ?_
  refine hK2 _ _ ?_
  refine wp_seq_k fun K3 hK3 => ?_
  refine wp_region_list (WL.out ?_)
  refine WL.val (by kernel_rfl) (.pointer (some ⟨g, 0, none⟩)) (by go_simp) ?_
  simp only [Act.put, List.setIfInBounds_toArray, List.set_cons_zero, List.set_cons_succ]
  refine WL.val (by kernel_rfl) (.string st) (by go_simp) ?_
  simp only [Act.put, List.setIfInBounds_toArray, List.set_cons_zero, List.set_cons_succ]
  refine WL.val (by kernel_rfl) (.pointer (some ⟨g, 0, none⟩)) (by go_simp) ?_
  simp only [Act.put, List.setIfInBounds_toArray, List.set_cons_zero, List.set_cons_succ]
  refine WL.val (by kernel_rfl) (.pointer (some ⟨g, 2, none⟩)) (by go_simp) ?_
  simp only [Act.put, List.setIfInBounds_toArray, List.set_cons_zero, List.set_cons_succ]
  refine WL.cell (by kernel_rfl) (w1.setCell ⟨g, 2, none⟩ (.string st)) (by go_simp) ?_
  simp only [Act.put]
  refine WL.nil ?_
  refine hK3 _ _ ?_
  refine wp_seq_k fun K4 hK4 => ?_
  refine wp_region_list (WL.out ?_)
  refine WL.val (by kernel_rfl) (er) (by go_simp) ?_
  simp only [Act.put, List.setIfInBounds_toArray, List.set_cons_zero, List.set_cons_succ]
  refine WL.val (by kernel_rfl) (er) (by go_simp) ?_
  simp only [Act.put, List.setIfInBounds_toArray, List.set_cons_zero, List.set_cons_succ]
  refine WL.nil ?_
  refine hK4 _ _ ?_
  refine wp_ret ?_
  go_ret
  have hXn := HX1.out.set 2 (.string st)
  rw [set_2] at hXn
  refine ⟨er, rfl, ?_, ?_⟩
  · exact (H2.out.mono fun _ _ h => .inl h).trans (Grown.setCell w1 g 2 _ fun _ => .inr rfl)
  · rw [HGk.out]
    rcases err_step H3.out (w' := w1.setCell ⟨g, 2, none⟩ (.string st)) (fun q hq => hq.set_ne (blk_ne hq HX1.out (by decide)) _) with ⟨h1, h2, h3⟩ | h
    · subst h3
      exact .inl ⟨h1, h2, ⟨H1.out.blk.set_ne (fun e => Hne.out e) _, H1.out.le⟩, hXn, HOk.out⟩
    · exact .inr h
theorem get2_any (p g : Nat) (s : ByteArray) (a : Nat) (x : OpV) (vA : Value) (ah : List OpV) (w : World) (hI : InAt w p s a none) (hb : s.size ≤ 140737488355328) (hX : Blk w g 33 (opA x)) (hx : OpOk x) :
    Calls Try.prog 76 #[ptr p, ptr g, vA] w (GetPost p g s (getF (lst s) ah 2 x a) w) := by
  have HI := Keep.mk hI
  have HX := Keep.mk hX
  have Hne : Keep (p ≠ g) := ⟨blk_ne hI.blk hX (by decide)⟩
  obtain ⟨R, hR⟩ : ∃ R, R = fstM ((lst s).drop a) 18446744073709551615 := ⟨_, rfl⟩
  obtain ⟨y, hy⟩ : ∃ y, y = if R.2.2 = 0 then zag R.1 else 0 := ⟨_, rfl⟩
  have hrg := fst_rng ((lst s).drop a) ((lst_byts s).drop a) 18446744073709551615 (by decide)
  rw [← hR] at hrg
  have hG : getF (lst s) ah 2 x a = (R.2.2, a + R.2.1.toNat, { x with n := y }) := by
    show ((fstM ((lst s).drop a) 18446744073709551615).2.2, _, _) = _
    rw [hy, hR]
  have HC := Keep.mk (isigned_good p s a w hI hb R hR y hy hrg.1 (by omega))
  have hyr : -9223372036854775808 ≤ y ∧ y ≤ 9223372036854775807 := by
    rw [hy]
    split
    · unfold zag; split <;> omega
    · omega
  have HOk : Keep (OpOk { x with n := y }) := ⟨{ hx with n1 := hyr.1, n2 := hyr.2 }⟩
  clear hR hy hrg hyr
  have HGk := Keep.mk hG
  clear hI hb hX hx hG
  have hG := HGk.out
  clear hG
  go_enter Try.func76, Try.ntmps76
  refine wp_seq_k fun K1 hK1 => ?_
  refine wp_region_list (WL.out ?_)
  refine WL.val (by kernel_rfl) (.nilIface) (by go_simp) ?_
  simp only [Act.put, List.setIfInBounds_toArray, List.set_cons_zero, List.set_cons_succ]
  refine WL.nil ?_
  refine hK1 _ _ ?_
  refine wp_seq_k fun K2 hK2 => ?_
  refine wp_region_list (WL.out ?_)
  refine WL.val (by kernel_rfl) (.pointer (some ⟨p, 0, none⟩)) (by go_simp) ?_
  simp only [Act.put, List.setIfInBounds_toArray, List.set_cons_zero, List.set_cons_succ]
  refine WL.callF (by kernel_rfl) 77 _ _ rfl Try.in77 #[ptr p] (by simp [Act.eval]) ?_
  refine (HC.out).mono ?_
  rintro e w1 ⟨bad, er, rfl, h1, h2, h3⟩
  refine ⟨_, rfl, ?_⟩
  have H1 := Keep.mk h1
  have H2 := Keep.mk h2
  have H3 := Keep.mk h3
  have HX1 := Keep.mk (h2.blk HX.out (fun e => Hne.out e.symm))
  have c1 := HX1.out.c 3 (opA_3 x)
  have f1 := HX1.out.frozen 3
  clear h1 h2 h3
  simp only [Act.put, List.setIfInBounds_toArray, List.set_cons_zero, List.set_cons_succ]
  refine WL.val (by kernel_rfl) (.tuple #[.int .i64 y, er]) (by go_simp) ?_
  simp only [Act.put, List.setIfInBounds_toArray, List.set_cons_zero, List.set_cons_succ]
  refine WL.val (by kernel_rfl) (.int .i64 y) (by go_simp) ?_
  simp only [Act.put, List.setIfInBounds_toArray, List.set_cons_zero, List.set_cons_succ]
  refine WL.val (by kernel_rfl) (er) (by go_simp) ?_
  simp only [Act.put, List.setIfInBounds_toArray, List.set_cons_zero, List.set_cons_succ]
  refine WL.val (by kernel_rfl) (.int .i64 y) (by go_simp) ?_
  simp only [Act.put, List.setIfInBounds_toArray, List.set_cons_zero, List.set_cons_succ]
  refine WL.val (by kernel_rfl) (er) (by go_simp) ?_
  simp only [Act.put, List.setIfInBounds_toArray, List.set_cons_zero, List.set_cons_succ]
  refine WL.nil ?_
  refine hK2 _ _ ?_
  refine wp_seq_k fun K3 hK3 => ?_
  refine wp_region_list (WL.out ?_)
  refine WL.val (by kernel_rfl) (.pointer (some ⟨g, 0, none⟩)) (by go_simp) ?_
  simp only [Act.put, List.setIfInBounds_toArray, List.set_cons_zero, List.set_cons_succ]
  refine WL.val (by kernel_rfl) (.int .i64 y) (by go_simp) ?_
  simp only [Act.put, List.setIfInBounds_toArray, List.set_cons_zero, List.set_cons_succ]
  refine WL.val (by kernel_rfl) (.pointer (some ⟨g, 0, none⟩)) (by go_simp) ?_
  simp only [Act.put, List.setIfInBounds_toArray, List.set_cons_zero, List.set_cons_succ]
  refine WL.val (by kernel_rfl) (.pointer (some ⟨g, 3, none⟩)) (by go_simp) ?_
  simp only [Act.put, List.setIfInBounds_toArray, List.set_cons_zero, List.set_cons_succ]
  refine WL.cell (by kernel_rfl) (w1.setCell ⟨g, 3, none⟩ (.int .i64 y)) (by go_simp) ?_
  simp only [Act.put]
  refine WL.nil ?_
  refine hK3 _ _ ?_
  refine wp_seq_k fun K4 hK4 => ?_
  refine wp_region_list (WL.out ?_)
  refine WL.val (by kernel_rfl) (er) (by go_simp) ?_
  simp only [Act.put, List.setIfInBounds_toArray, List.set_cons_zero, List.set_cons_succ]
  refine WL.val (by kernel_rfl) (er) (by go_simp) ?_
  simp only [Act.put, List.setIfInBounds_toArray, List.set_cons_zero, List.set_cons_succ]
  refine WL.nil ?_
  refine hK4 _ _ ?_
  refine wp_ret ?_
  go_ret
  have hXn := HX1.out.set 3 (.int .i64 y)
  rw [set_3] at hXn
  refine ⟨er, rfl, ?_, ?_⟩
  · exact (H2.out.mono fun _ _ h => .inl h).trans (Grown.setCell w1 g 3 _ fun _ => .inr rfl)
  · rw [HGk.out]
    rcases err_step H3.out (w' := w1.setCell ⟨g, 3, none⟩ (.int .i64 y)) (fun q hq => hq.set_ne (blk_ne hq HX1.out (by decide)) _) with ⟨h1, h2, h3⟩ | h
    · subst h3
      exact .inl ⟨h1, h2, ⟨H1.out.blk.set_ne (fun e => Hne.out e) _, H1.out.le⟩, hXn, HOk.out⟩
    · exact .inr h
set_option maxRecDepth 8000 in
set_option maxHeartbeats 2000000 in
theorem get3_any (p g : Nat) (s : ByteArray) (a : Nat) (x : OpV) (vA : Value) (ah : List OpV) (w : World) (hI : InAt w p s a none) (hb : s.size ≤ 140737488355328) (hX : Blk w g 33 (opA x)) (hx : OpOk x)
    (hA : ∀ wx, (Grown w wx fun k => k = p ∨ k = g) → OpsAt wx vA ah) (hal : ah.length ≤ 1024) :
    Calls Try.prog 80 #[ptr p, ptr g, vA] w (GetPost p g s (getF (lst s) ah 3 x a) w) := by
  have HI := Keep.mk hI
  have HX := Keep.mk hX
  have Hb := Keep.mk hb
  have HA := Keep.mk hA
  have HAl : Keep (ah.length ≤ 4398046511104) := ⟨by omega⟩
  have Hne : Keep (p ≠ g) := ⟨blk_ne hI.blk hX (by decide)⟩
  have hG : getF (lst s) ah 3 x a = getA (lst s) ah x a := rfl
  rw [hG]
  clear hG
  have hBy : Byts ((lst s).drop a) := (lst_byts s).drop a
  have hrg := fst_rng ((lst s).drop a) hBy 1024 (by decide)
  have hc := inum_good p s a 1024 w hI hb
  obtain ⟨G, hG⟩ : ∃ G, G = getA (lst s) ah x a := ⟨_, rfl⟩
  rw [← hG]
  unfold getA at hG
  have hc' : Calls Try.prog 46 #[ptr p, .int .u64 1024] w (RdPost p s (fstM ((lst s).drop a) 1024).2.2 (a + (fstM ((lst s).drop a) 1024).2.1.toNat) (.int .u64 (fstM ((lst s).drop a) 1024).1) w) := hc
  clear hc
  generalize fstM ((lst s).drop a) 1024 = R at *
  obtain ⟨rv, rn, re⟩ := R
  simp only at hG hc' hrg
  obtain ⟨a1, ha1⟩ : ∃ a1, a1 = a + rn.toNat := ⟨_, rfl⟩
  rw [← ha1] at hG hc'
  obtain ⟨D1, hD1⟩ : ∃ D1, D1 = (lst s).drop a1 := ⟨_, rfl⟩
  obtain ⟨W2, hW2⟩ : ∃ W2, W2 = nextW D1 32 := ⟨_, rfl⟩
  obtain ⟨N2, hN2⟩ : ∃ N2, N2 = nextN D1 32 := ⟨_, rfl⟩
  rw [← hD1, ← hW2, ← hN2] at hG
  have HC := Keep.mk hc'
  have Hrg := Keep.mk hrg
  have HD1 := Keep.mk hD1
  have HW2 := Keep.mk hW2
  have HN2 := Keep.mk hN2
  have HG1 : Keep (¬ re = 0 → G = (re, a1, x)) := ⟨fun h => by rw [hG, if_pos h]⟩
  have HG0 : Keep (re = 0 → rv = 0 → G = if mayAt ah { x with op := 0 } = true then (0, a1, { x with op := 0 }) else (42, a, x)) := ⟨fun h h2 => by rw [hG, if_neg (by simp [h]), if_pos h2]⟩
  have HGb : Keep (re = 0 → ¬ rv = 0 → ¬ W2 = 0 → G = (W2, a1 + N2, x)) := ⟨fun h h2 h3 => by rw [hG, if_neg (by simp [h]), if_neg h2, if_pos h3]⟩
  have HGn : Keep (re = 0 → ¬ rv = 0 → W2 = 0 → G = if mayAt ah { x with op := rv, node := D1.take 32 } = true then (0, a1 + 32, { x with op := rv, node := D1.take 32 }) else (42, a, x)) := ⟨fun h h2 h3 => by rw [hG, if_neg (by simp [h]), if_neg h2, if_neg (by simp [h3])]⟩
  have hN32 : W2 = 0 → N2 = 32 := fun h => by rw [hN2, (nextN_0 D1 32 (by rw [← hW2]; exact h)).1]; rfl
  have hlen : W2 = 0 → (D1.take 32).length = 32 := fun h => by
    have := (nextN_0 D1 32 (by rw [← hW2]; exact h)).2.2
    rw [List.length_take]; omega
  have hhl : W2 = 0 → hl 32 (hrd D1 W2) = D1.take 32 := fun h => by
    rw [← hl_hof (D1.take 32) (hlen h)]
    unfold hl
    apply List.map_congr_left
    intro i hi
    have hi' := List.mem_range.1 hi
    show (if W2 = 0 then D1.getD i 0 else 0) = (D1.take 32).getD i 0
    rw [if_pos h]
    simp [List.getD_eq_getElem?_getD, List.getElem?_take, hi']
  have hz1 : (-9223372036854775808 : Int) ≤ 0 := by decide
  have hz2 : (0 : Int) ≤ 9223372036854775807 := by decide
  have HOk0 : Keep (OpOk { x with op := 0 }) := ⟨{ hx with o1 := hz1, o2 := hz2 }⟩
  have hz3 : (-9223372036854775808 : Int) ≤ rv := by omega
  have hz4 : rv ≤ 9223372036854775807 := by omega
  have hz5 : Byts (D1.take 32) := by rw [hD1]; exact ((lst_byts s).drop a1).take 32
  have HOkn : Keep (W2 = 0 → OpOk { x with op := rv, node := D1.take 32 }) := ⟨fun h => { hx with o1 := hz3, o2 := hz4, node := hlen h, byts := hz5 }⟩
  clear hz1 hz2 hz3 hz4 hz5
  clear hI hb hX hx hA hal hBy hrg hc' hG ha1 hD1 hW2 hN2 hlen
  go_enter Try.func80, Try.ntmps80
  refine wp_seq_k fun K1 hK1 => ?_
  refine wp_region_list (WL.out ?_)
  refine WL.val (by kernel_rfl) (.nilIface) (by go_simp) ?_
  simp only [Act.put, List.setIfInBounds_toArray, List.set_cons_zero, List.set_cons_succ]
  refine WL.nil ?_
  refine hK1 _ _ ?_
  refine wp_seq_k fun K2 hK2 => ?_
  refine wp_region_list (WL.out ?_)
  refine WL.val (by kernel_rfl) (.pointer (some ⟨p, 0, none⟩)) (by go_simp) ?_
  simp only [Act.put, List.setIfInBounds_toArray, List.set_cons_zero, List.set_cons_succ]
  refine WL.callF (by kernel_rfl) 29 _ _ rfl Try.in29 #[ptr p] (by simp [Act.eval]) ?_
  refine (iat_any p s a none w HI.out).mono ?_
  rintro e w0 ⟨rfl, hw0⟩
  rw [hw0]
  clear hw0 w0
  refine ⟨_, rfl, ?_⟩
  simp only [Act.put, List.setIfInBounds_toArray, List.set_cons_zero, List.set_cons_succ]
  refine WL.val (by kernel_rfl) (.int .i64 (a : Int)) (by go_simp) ?_
  simp only [Act.put, List.setIfInBounds_toArray, List.set_cons_zero, List.set_cons_succ]
  refine WL.nil ?_
  refine hK2 _ _ ?_
  refine wp_seq_k fun K3 hK3 => ?_
  refine wp_region_list (WL.out ?_)
  refine WL.val (by kernel_rfl) (.pointer (some ⟨p, 0, none⟩)) (by go_simp) ?_
  simp only [Act.put, List.setIfInBounds_toArray, List.set_cons_zero, List.set_cons_succ]
  refine WL.callF (by kernel_rfl) 46 _ _ rfl Try.in46 #[ptr p, .int .u64 1024] (by simp [Act.eval]) ?_
  refine (HC.out).mono ?_
  rintro e w1 ⟨bad, er, rfl, h1, h2, h3⟩
  refine ⟨_, rfl, ?_⟩
  have HX1 := Keep.mk (h2.blk HX.out (fun e => Hne.out e.symm))
  have H1 := Keep.mk h1
  have H2 := Keep.mk h2
  have H3 := Keep.mk h3
  clear h1 h2 h3
  simp only [Act.put, List.setIfInBounds_toArray, List.set_cons_zero, List.set_cons_succ]
  refine WL.val (by kernel_rfl) (.tuple #[.int .u64 rv, er]) (by go_simp) ?_
  simp only [Act.put, List.setIfInBounds_toArray, List.set_cons_zero, List.set_cons_succ]
  refine WL.val (by kernel_rfl) (.int .u64 rv) (by go_simp) ?_
  simp only [Act.put, List.setIfInBounds_toArray, List.set_cons_zero, List.set_cons_succ]
  refine WL.val (by kernel_rfl) (er) (by go_simp) ?_
  simp only [Act.put, List.setIfInBounds_toArray, List.set_cons_zero, List.set_cons_succ]
  refine WL.val (by kernel_rfl) (.int .u64 rv) (by go_simp) ?_
  simp only [Act.put, List.setIfInBounds_toArray, List.set_cons_zero, List.set_cons_succ]
  refine WL.val (by kernel_rfl) (er) (by go_simp) ?_
  simp only [Act.put, List.setIfInBounds_toArray, List.set_cons_zero, List.set_cons_succ]
  refine WL.nil ?_
  refine hK3 _ _ ?_
  refine wp_seq_k fun K4 hK4 => ?_
  refine wp_seq_k fun K5 hK5 => ?_
  by_cases hE : re = 0
  · rcases H3.out with ⟨e1, rfl, rfl⟩ | ⟨e1, _⟩
    rotate_left
    · exact absurd hE e1
    have c36 := HX1.out.c 36 (opA_36 x)
    have f36 := HX1.out.frozen 36
    have hwn : IntKind.i64.wrap rv = rv := by rw [IntKind.wrap_i64]; have := Hrg.out; omega
    refine wp_region_list (WL.out ?_)
    refine WL.val (by kernel_rfl) (.nilIface) (by go_simp) ?_
    simp only [Act.put, List.setIfInBounds_toArray, List.set_cons_zero, List.set_cons_succ]
    refine WL.val (by kernel_rfl) (.bool false) (by go_simp) ?_
    simp only [Act.put, List.setIfInBounds_toArray, List.set_cons_zero, List.set_cons_succ]
    refine WL.nil ?_
    refine hK5 _ _ ?_
    refine wp_cond_false rfl ?_
    refine wp_skip ?_
    refine hK4 _ _ ?_
    refine wp_seq_k fun K6 hK6 => ?_
    refine wp_region_list (WL.out ?_)
    refine WL.val (by kernel_rfl) (.pointer (some ⟨g, 0, none⟩)) (by go_simp) ?_
    simp only [Act.put, List.setIfInBounds_toArray, List.set_cons_zero, List.set_cons_succ]
    refine WL.val (by kernel_rfl) (.int .u64 rv) (by go_simp) ?_
    simp only [Act.put, List.setIfInBounds_toArray, List.set_cons_zero, List.set_cons_succ]
    refine WL.val (by kernel_rfl) (.int .i64 rv) (by go_simp) ?_
    simp only [Act.put, List.setIfInBounds_toArray, List.set_cons_zero, List.set_cons_succ]
    refine WL.val (by kernel_rfl) (.pointer (some ⟨g, 0, none⟩)) (by go_simp) ?_
    simp only [Act.put, List.setIfInBounds_toArray, List.set_cons_zero, List.set_cons_succ]
    refine WL.val (by kernel_rfl) (.pointer (some ⟨g, 4, none⟩)) (by go_simp) ?_
    simp only [Act.put, List.setIfInBounds_toArray, List.set_cons_zero, List.set_cons_succ]
    refine WL.val (by kernel_rfl) (.pointer (some ⟨g, 36, none⟩)) (by go_simp) ?_
    simp only [Act.put, List.setIfInBounds_toArray, List.set_cons_zero, List.set_cons_succ]
    refine WL.cell (by kernel_rfl) (w1.setCell ⟨g, 36, none⟩ (.int .i64 rv)) (by go_simp) ?_
    have HX2 := Keep.mk (HX1.out.set 36 (.int .i64 rv))
    rw [set_36] at HX2
    have HI2 : Keep (InAt (w1.setCell ⟨g, 36, none⟩ (.int .i64 rv)) p s a1 none) := ⟨H1.out.blk.set_ne (fun e => Hne.out e) _, H1.out.le⟩
    have HG2 : Keep (Grown w (w1.setCell ⟨g, 36, none⟩ (.int .i64 rv)) fun k => k = p ∨ k = g) := ⟨(H2.out.mono fun _ _ h => .inl h).trans (Grown.setCell w1 g 36 _ fun _ => .inr rfl)⟩
    generalize w1.setCell ⟨g, 36, none⟩ (.int .i64 rv) = w2 at *
    clear c36 f36
    simp only [Act.put]
    refine WL.nil ?_
    refine hK6 _ _ ?_
    refine wp_seq_k fun K7 hK7 => ?_
    refine wp_seq_k fun K8 hK8 => ?_
    refine wp_region_list (WL.out ?_)
    refine WL.val (by kernel_rfl) (.int .u64 rv) (by go_simp) ?_
    simp only [Act.put, List.setIfInBounds_toArray, List.set_cons_zero, List.set_cons_succ]
    by_cases h6_1 : rv = 0
    · skip
      refine WL.val (by kernel_rfl) (.bool false) (by go_simp) ?_
      simp only [Act.put, List.setIfInBounds_toArray, List.set_cons_zero, List.set_cons_succ]
      refine WL.nil ?_
      refine hK8 _ _ ?_
      refine wp_cond_false rfl ?_
      refine wp_skip ?_
      refine hK7 _ _ ?_
      refine wp_seq_k fun K9 hK9 => ?_
      refine wp_seq_k fun K10 hK10 => ?_
      refine wp_region_list (WL.out ?_)
      refine WL.val (by kernel_rfl) (.pointer (some ⟨g, 0, none⟩)) (by go_simp) ?_
      simp only [Act.put, List.setIfInBounds_toArray, List.set_cons_zero, List.set_cons_succ]
      refine WL.val (by kernel_rfl) (.pointer (some ⟨g, 0, none⟩)) (by go_simp) ?_
      simp only [Act.put, List.setIfInBounds_toArray, List.set_cons_zero, List.set_cons_succ]
      have hrv0 := h6_1
      obtain ⟨x2, hx2⟩ : ∃ x2 : OpV, Keep (x2 = { x with op := 0 }) := ⟨_, ⟨rfl⟩⟩
      rw [h6_1] at HX2
      rw [← hx2.out] at HX2
      have HOk5 : Keep (OpOk x2) := ⟨by rw [hx2.out]; exact HOk0.out⟩
      refine WL.row (by kernel_rfl) 33 (.tmp 44) rfl g rfl 33 (opA x2) _ HX2.out Try.underlying33 rfl (Try.size33B x2) ?_
      simp only [Act.put, List.setIfInBounds_toArray, List.set_cons_zero, List.set_cons_succ]
      refine WL.val (by kernel_rfl) (vA) (by go_simp) ?_
      simp only [Act.put, List.setIfInBounds_toArray, List.set_cons_zero, List.set_cons_succ]
      refine WL.callF (by kernel_rfl) 55 _ _ rfl Try.in55 #[.agg (opA x2), vA] (by simp [Act.eval]) ?_
      refine (may_any x2 vA ah w2 HOk5.out (HA.out w2 HG2.out) HAl.out).mono ?_
      rintro e w6 ⟨rfl, h6⟩
      refine ⟨_, rfl, ?_⟩
      have HX6 := Keep.mk (HX2.out.below h6 HX2.out.lt)
      have HI6 : Keep (InAt w6 p s _ none) := ⟨HI2.out.blk.below h6 HI2.out.blk.lt, HI2.out.le⟩
      have HG6 : Keep (Grown w w6 fun k => k = p ∨ k = g) := ⟨HG2.out.trans (Grown.below h6)⟩
      clear h6
      simp only [Act.put, List.setIfInBounds_toArray, List.set_cons_zero, List.set_cons_succ]
      rcases Bool.eq_false_or_eq_true (!mayAt ah x2) with h11_5 | h11_5
      · have hmy : mayAt ah x2 = false := by simpa using h11_5
        refine WL.val (by kernel_rfl) (.bool true) (by go_simp) ?_
        simp only [Act.put, List.setIfInBounds_toArray, List.set_cons_zero, List.set_cons_succ]
        refine WL.nil ?_
        refine hK10 _ _ ?_
        refine wp_cond_true rfl ?_
        refine wp_seq_k fun K11 hK11 => ?_
        refine wp_region_list (WL.out ?_)
        refine WL.val (by kernel_rfl) (.int .i64 (a : Int)) (by go_simp) ?_
        simp only [Act.put, List.setIfInBounds_toArray, List.set_cons_zero, List.set_cons_succ]
        refine WL.bld (by kernel_rfl) 104 _ rfl [(0, .int .i64 42), (1, .int .i64 (a : Int))] (by simp [Act.eval]) #[.int .i64 42, .int .i64 (a : Int)] (by kernel_rfl) ?_
        simp only [Act.put, List.setIfInBounds_toArray, List.set_cons_zero, List.set_cons_succ]
        refine WL.box (by kernel_rfl) 104 (.tmp 50) rfl #[.int .i64 42, .int .i64 (a : Int)] rfl ?_
        simp only [Act.put, List.setIfInBounds_toArray, List.set_cons_zero, List.set_cons_succ]
        refine WL.val (by kernel_rfl) (.iface 88 (.pointer (some ⟨w6.heap.size, 0, none⟩))) (by go_simp) ?_
        simp only [Act.put, List.setIfInBounds_toArray, List.set_cons_zero, List.set_cons_succ]
        refine WL.val (by kernel_rfl) (.iface 88 (.pointer (some ⟨w6.heap.size, 0, none⟩))) (by go_simp) ?_
        simp only [Act.put, List.setIfInBounds_toArray, List.set_cons_zero, List.set_cons_succ]
        refine WL.nil ?_
        refine hK11 _ _ ?_
        refine wp_ret ?_
        go_ret
        exact ⟨err w6.heap.size, rfl, HG6.out.trans (Grown.alloc w6 _ _), by rw [HG0.out hE hrv0, ← hx2.out, if_neg (by rw [hmy]; decide)]; exact .inr ⟨(show (42 : Int) ≠ 0 by decide), _, HG6.out.size, rfl, Blk.new w6 104 _⟩⟩
      · have hmy : mayAt ah x2 = true := by simpa using h11_5
        refine WL.val (by kernel_rfl) (.bool false) (by go_simp) ?_
        simp only [Act.put, List.setIfInBounds_toArray, List.set_cons_zero, List.set_cons_succ]
        refine WL.nil ?_
        refine hK10 _ _ ?_
        refine wp_cond_false rfl ?_
        refine wp_skip ?_
        refine hK9 _ _ ?_
        refine wp_seq_k fun K12 hK12 => ?_
        refine wp_region_list (WL.out ?_)
        refine WL.val (by kernel_rfl) (.nilIface) (by go_simp) ?_
        simp only [Act.put, List.setIfInBounds_toArray, List.set_cons_zero, List.set_cons_succ]
        refine WL.nil ?_
        refine hK12 _ _ ?_
        refine wp_ret ?_
        go_ret
        exact ⟨.nilIface, rfl, HG6.out, by rw [HG0.out hE hrv0, ← hx2.out, if_pos hmy]; exact .inl ⟨rfl, rfl, HI6.out, HX6.out, HOk5.out⟩⟩
    · skip
      refine WL.val (by kernel_rfl) (.bool true) (by go_simp) ?_
      simp only [Act.put, List.setIfInBounds_toArray, List.set_cons_zero, List.set_cons_succ]
      refine WL.nil ?_
      refine hK8 _ _ ?_
      refine wp_cond_true rfl ?_
      refine wp_seq_k fun K13 hK13 => ?_
      refine wp_region_list (WL.out ?_)
      refine WL.val (by kernel_rfl) (.pointer (some ⟨p, 0, none⟩)) (by go_simp) ?_
      simp only [Act.put, List.setIfInBounds_toArray, List.set_cons_zero, List.set_cons_succ]
      refine WL.callF (by kernel_rfl) 86 _ _ rfl Try.in86 #[ptr p] (by simp [Act.eval]) ?_
      refine (ihash_good p s a1 w2 HI2.out Hb.out D1 HD1.out W2 HW2.out N2 HN2.out).mono ?_
      rintro e w3 ⟨bad3, er3, rfl, h1, h2, h3⟩
      refine ⟨_, rfl, ?_⟩
      have HX3 := Keep.mk (h2.blk HX2.out (fun e => Hne.out e.symm))
      have I1 := Keep.mk h1
      have I2 := Keep.mk h2
      have I3 := Keep.mk h3
      have HG3 : Keep (Grown w w3 fun k => k = p ∨ k = g) := ⟨HG2.out.trans (h2.mono fun _ _ h => .inl h)⟩
      clear h1 h2 h3
      simp only [Act.put, List.setIfInBounds_toArray, List.set_cons_zero, List.set_cons_succ]
      refine WL.val (by kernel_rfl) (.tuple #[.agg (bytesA 32 (hrd D1 W2)), er3]) (by go_simp) ?_
      simp only [Act.put, List.setIfInBounds_toArray, List.set_cons_zero, List.set_cons_succ]
      refine WL.val (by kernel_rfl) (.agg (bytesA 32 (hrd D1 W2))) (by go_simp) ?_
      simp only [Act.put, List.setIfInBounds_toArray, List.set_cons_zero, List.set_cons_succ]
      refine WL.val (by kernel_rfl) (er3) (by go_simp) ?_
      simp only [Act.put, List.setIfInBounds_toArray, List.set_cons_zero, List.set_cons_succ]
      refine WL.new (by kernel_rfl) 29 rfl _ Try.new29 ?_
      simp only [Act.put, List.setIfInBounds_toArray, List.set_cons_zero, List.set_cons_succ]
      refine WL.storeR (by kernel_rfl) 29 (.tmp 10) (.tmp 33) rfl w3.heap.size (bytesA 32 (hrd D1 W2)) rfl rfl 29 (bytesA 32 fun _ => 0) (Blk.new w3 29 _) (Try.size29B _) (bytesA_sizes _ _ _) (bytesA_one _ _) ?_
      have HV4 := Keep.mk ((Blk.new w3 29 (bytesA 32 fun _ => 0)).setRow (bytesA 32 (hrd D1 W2)))
      have B4 : Keep (Below w3.heap.size w3 ((w3.alloc (.cells (bytesA 32 fun _ => 0) 29)).setRow w3.heap.size (bytesA 32 (hrd D1 W2)))) := ⟨below_setRow (below_new w3 _) (Nat.le_refl _) _⟩
      generalize (w3.alloc (.cells (bytesA 32 fun _ => 0) 29)).setRow w3.heap.size (bytesA 32 (hrd D1 W2)) = w4 at *
      have HX4 := Keep.mk (HX3.out.below B4.out HX3.out.lt)
      have HG4 : Keep (Grown w w4 fun k => k = p ∨ k = g) := ⟨HG3.out.trans (Grown.below B4.out)⟩
      simp only [Act.put]
      refine WL.val (by kernel_rfl) (er3) (by go_simp) ?_
      simp only [Act.put, List.setIfInBounds_toArray, List.set_cons_zero, List.set_cons_succ]
      refine WL.nil ?_
      refine hK13 _ _ ?_
      refine wp_seq_k fun K14 hK14 => ?_
      refine wp_seq_k fun K15 hK15 => ?_
      by_cases hE2 : W2 = 0
      · rcases I3.out with ⟨e1, rfl, rfl⟩ | ⟨e1, _⟩
        rotate_left
        · exact absurd hE2 e1
        have HI4 : Keep (InAt w4 p s (a1 + N2) none) := ⟨I1.out.blk.below B4.out I1.out.blk.lt, I1.out.le⟩
        refine wp_region_list (WL.out ?_)
        refine WL.val (by kernel_rfl) (.nilIface) (by go_simp) ?_
        simp only [Act.put, List.setIfInBounds_toArray, List.set_cons_zero, List.set_cons_succ]
        refine WL.val (by kernel_rfl) (.bool false) (by go_simp) ?_
        simp only [Act.put, List.setIfInBounds_toArray, List.set_cons_zero, List.set_cons_succ]
        refine WL.nil ?_
        refine hK15 _ _ ?_
        refine wp_cond_false rfl ?_
        refine wp_skip ?_
        refine hK14 _ _ ?_
        refine wp_region_list (WL.out ?_)
        refine WL.val (by kernel_rfl) (.pointer (some ⟨g, 0, none⟩)) (by go_simp) ?_
        simp only [Act.put, List.setIfInBounds_toArray, List.set_cons_zero, List.set_cons_succ]
        refine WL.row (by kernel_rfl) 29 (.tmp 10) rfl w3.heap.size rfl 29 (bytesA 32 (hrd D1 W2)) _ HV4.out Try.underlying29 rfl (Try.size29B _) ?_
        simp only [Act.put, List.setIfInBounds_toArray, List.set_cons_zero, List.set_cons_succ]
        refine WL.val (by kernel_rfl) (.pointer (some ⟨g, 0, none⟩)) (by go_simp) ?_
        simp only [Act.put, List.setIfInBounds_toArray, List.set_cons_zero, List.set_cons_succ]
        refine WL.val (by kernel_rfl) (.pointer (some ⟨g, 4, none⟩)) (by go_simp) ?_
        simp only [Act.put, List.setIfInBounds_toArray, List.set_cons_zero, List.set_cons_succ]
        refine WL.val (by kernel_rfl) (.pointer (some ⟨g, 4, none⟩)) (by go_simp) ?_
        simp only [Act.put, List.setIfInBounds_toArray, List.set_cons_zero, List.set_cons_succ]
        refine WL.part (by kernel_rfl) 29 (.tmp 42) (.tmp 39) rfl g 4 (bytesA 32 (hrd D1 W2)) rfl rfl 33 (opA { x with op := rv }) HX4.out (Try.size29B _) (by rw [bytesA_size, opA_size]; decide) (bytesA_one _ _) _ (put_node { x with op := rv } (hrd D1 W2)) ?_
        have HX5 := Keep.mk (HX4.out.setRow (opA { x with op := rv, node := hl 32 (hrd D1 W2) }))
        have HI5 : Keep (InAt (w4.setRow g (opA { x with op := rv, node := hl 32 (hrd D1 W2) })) p s (a1 + N2) none) := ⟨HI4.out.blk.setRow_ne (fun e => Hne.out e) _, HI4.out.le⟩
        have HG5 : Keep (Grown w (w4.setRow g (opA { x with op := rv, node := hl 32 (hrd D1 W2) })) fun k => k = p ∨ k = g) := ⟨HG4.out.trans (Grown.setRow w4 g _ fun _ => .inr rfl)⟩
        rw [hhl hE2] at HX5 HI5 HG5 ⊢
        obtain ⟨x2, hx2⟩ : ∃ x2 : OpV, Keep (x2 = { x with op := rv, node := D1.take 32 }) := ⟨_, ⟨rfl⟩⟩
        rw [← hx2.out] at HX5 HI5 HG5 ⊢
        generalize w4.setRow g (opA x2) = w5 at *
        have HOk5 : Keep (OpOk x2) := ⟨by rw [hx2.out]; exact HOkn.out hE2⟩
        simp only [Act.put]
        refine WL.nil ?_
        refine hK7 _ _ ?_
        refine wp_seq_k fun K16 hK16 => ?_
        refine wp_seq_k fun K17 hK17 => ?_
        refine wp_region_list (WL.out ?_)
        refine WL.val (by kernel_rfl) (.pointer (some ⟨g, 0, none⟩)) (by go_simp) ?_
        simp only [Act.put, List.setIfInBounds_toArray, List.set_cons_zero, List.set_cons_succ]
        refine WL.val (by kernel_rfl) (.pointer (some ⟨g, 0, none⟩)) (by go_simp) ?_
        simp only [Act.put, List.setIfInBounds_toArray, List.set_cons_zero, List.set_cons_succ]
        refine WL.row (by kernel_rfl) 33 (.tmp 44) rfl g rfl 33 (opA x2) _ HX5.out Try.underlying33 rfl (Try.size33B x2) ?_
        simp only [Act.put, List.setIfInBounds_toArray, List.set_cons_zero, List.set_cons_succ]
        refine WL.val (by kernel_rfl) (vA) (by go_simp) ?_
        simp only [Act.put, List.setIfInBounds_toArray, List.set_cons_zero, List.set_cons_succ]
        refine WL.callF (by kernel_rfl) 55 _ _ rfl Try.in55 #[.agg (opA x2), vA] (by simp [Act.eval]) ?_
        refine (may_any x2 vA ah w5 HOk5.out (HA.out w5 HG5.out) HAl.out).mono ?_
        rintro e w6 ⟨rfl, h6⟩
        refine ⟨_, rfl, ?_⟩
        have HX6 := Keep.mk (HX5.out.below h6 HX5.out.lt)
        have HI6 : Keep (InAt w6 p s _ none) := ⟨HI5.out.blk.below h6 HI5.out.blk.lt, HI5.out.le⟩
        have HG6 : Keep (Grown w w6 fun k => k = p ∨ k = g) := ⟨HG5.out.trans (Grown.below h6)⟩
        clear h6
        simp only [Act.put, List.setIfInBounds_toArray, List.set_cons_zero, List.set_cons_succ]
        rcases Bool.eq_false_or_eq_true (!mayAt ah x2) with h11_5 | h11_5
        · have hmy : mayAt ah x2 = false := by simpa using h11_5
          refine WL.val (by kernel_rfl) (.bool true) (by go_simp) ?_
          simp only [Act.put, List.setIfInBounds_toArray, List.set_cons_zero, List.set_cons_succ]
          refine WL.nil ?_
          refine hK17 _ _ ?_
          refine wp_cond_true rfl ?_
          refine wp_seq_k fun K18 hK18 => ?_
          refine wp_region_list (WL.out ?_)
          refine WL.val (by kernel_rfl) (.int .i64 (a : Int)) (by go_simp) ?_
          simp only [Act.put, List.setIfInBounds_toArray, List.set_cons_zero, List.set_cons_succ]
          refine WL.bld (by kernel_rfl) 104 _ rfl [(0, .int .i64 42), (1, .int .i64 (a : Int))] (by simp [Act.eval]) #[.int .i64 42, .int .i64 (a : Int)] (by kernel_rfl) ?_
          simp only [Act.put, List.setIfInBounds_toArray, List.set_cons_zero, List.set_cons_succ]
          refine WL.box (by kernel_rfl) 104 (.tmp 50) rfl #[.int .i64 42, .int .i64 (a : Int)] rfl ?_
          simp only [Act.put, List.setIfInBounds_toArray, List.set_cons_zero, List.set_cons_succ]
          refine WL.val (by kernel_rfl) (.iface 88 (.pointer (some ⟨w6.heap.size, 0, none⟩))) (by go_simp) ?_
          simp only [Act.put, List.setIfInBounds_toArray, List.set_cons_zero, List.set_cons_succ]
          refine WL.val (by kernel_rfl) (.iface 88 (.pointer (some ⟨w6.heap.size, 0, none⟩))) (by go_simp) ?_
          simp only [Act.put, List.setIfInBounds_toArray, List.set_cons_zero, List.set_cons_succ]
          refine WL.nil ?_
          refine hK18 _ _ ?_
          refine wp_ret ?_
          go_ret
          exact ⟨err w6.heap.size, rfl, HG6.out.trans (Grown.alloc w6 _ _), by rw [HGn.out hE h6_1 hE2, ← hx2.out, if_neg (by rw [hmy]; decide)]; exact .inr ⟨(show (42 : Int) ≠ 0 by decide), _, HG6.out.size, rfl, Blk.new w6 104 _⟩⟩
        · have hmy : mayAt ah x2 = true := by simpa using h11_5
          refine WL.val (by kernel_rfl) (.bool false) (by go_simp) ?_
          simp only [Act.put, List.setIfInBounds_toArray, List.set_cons_zero, List.set_cons_succ]
          refine WL.nil ?_
          refine hK17 _ _ ?_
          refine wp_cond_false rfl ?_
          refine wp_skip ?_
          refine hK16 _ _ ?_
          refine wp_seq_k fun K19 hK19 => ?_
          refine wp_region_list (WL.out ?_)
          refine WL.val (by kernel_rfl) (.nilIface) (by go_simp) ?_
          simp only [Act.put, List.setIfInBounds_toArray, List.set_cons_zero, List.set_cons_succ]
          refine WL.nil ?_
          refine hK19 _ _ ?_
          refine wp_ret ?_
          go_ret
          exact ⟨.nilIface, rfl, HG6.out, by rw [HGn.out hE h6_1 hE2, ← hx2.out, if_pos hmy]; exact .inl ⟨rfl, rfl, by have h := HI6.out; rw [hN32 hE2] at h; exact h, HX6.out, HOk5.out⟩⟩
      · rcases I3.out with ⟨e1, _, _⟩ | ⟨_, q, hq, rfl, rfl, hbad⟩
        · exact absurd e1 hE2
        have Hbad := Keep.mk (hbad.below B4.out hbad.lt)
        have Hq := Keep.mk (Nat.le_trans HG2.out.size hq)
        clear hbad hq
        unfold err
        refine wp_region_list (WL.out ?_)
        refine WL.val (by kernel_rfl) (.iface 88 (ptr q)) (by go_simp) ?_
        simp only [Act.put, List.setIfInBounds_toArray, List.set_cons_zero, List.set_cons_succ]
        refine WL.val (by kernel_rfl) (.bool true) (by go_simp) ?_
        simp only [Act.put, List.setIfInBounds_toArray, List.set_cons_zero, List.set_cons_succ]
        refine WL.nil ?_
        refine hK15 _ _ ?_
        refine wp_cond_true rfl ?_
        refine wp_seq_k fun K20 hK20 => ?_
        refine wp_region_list (WL.out ?_)
        refine WL.val (by kernel_rfl) (.iface 88 (ptr q)) (by go_simp) ?_
        simp only [Act.put, List.setIfInBounds_toArray, List.set_cons_zero, List.set_cons_succ]
        refine WL.val (by kernel_rfl) (.iface 88 (ptr q)) (by go_simp) ?_
        simp only [Act.put, List.setIfInBounds_toArray, List.set_cons_zero, List.set_cons_succ]
        refine WL.nil ?_
        refine hK20 _ _ ?_
        refine wp_ret ?_
        go_ret
        exact ⟨err q, rfl, HG4.out, by rw [HGb.out hE h6_1 hE2]; exact .inr ⟨hE2, q, Hq.out, rfl, Hbad.out⟩⟩
  · rcases H3.out with ⟨e1, _, _⟩ | ⟨_, q, hq, rfl, rfl, hbad⟩
    · exact absurd e1 hE
    have Hbad := Keep.mk hbad
    clear hbad
    unfold err
    refine wp_region_list (WL.out ?_)
    refine WL.val (by kernel_rfl) (.iface 88 (ptr q)) (by go_simp) ?_
    simp only [Act.put, List.setIfInBounds_toArray, List.set_cons_zero, List.set_cons_succ]
    refine WL.val (by kernel_rfl) (.bool true) (by go_simp) ?_
    simp only [Act.put, List.setIfInBounds_toArray, List.set_cons_zero, List.set_cons_succ]
    refine WL.nil ?_
    refine hK5 _ _ ?_
    refine wp_cond_true rfl ?_
    refine wp_seq_k fun K21 hK21 => ?_
    refine wp_region_list (WL.out ?_)
    refine WL.val (by kernel_rfl) (.iface 88 (ptr q)) (by go_simp) ?_
    simp only [Act.put, List.setIfInBounds_toArray, List.set_cons_zero, List.set_cons_succ]
    refine WL.val (by kernel_rfl) (.iface 88 (ptr q)) (by go_simp) ?_
    simp only [Act.put, List.setIfInBounds_toArray, List.set_cons_zero, List.set_cons_succ]
    refine WL.nil ?_
    refine hK21 _ _ ?_
    refine wp_ret ?_
    go_ret
    exact ⟨err q, rfl, H2.out.mono fun _ _ h => .inl h, by rw [HG1.out hE]; exact .inr ⟨hE, q, hq, rfl, Hbad.out⟩⟩

end Go.Proofs.Ytbkboebinhafhaa
