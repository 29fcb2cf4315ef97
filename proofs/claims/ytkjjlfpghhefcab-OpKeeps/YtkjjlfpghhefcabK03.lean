import Derived.Test.YtkjjlfpghhefcabK02
import Derived.Test.YtkjjlfpghhefcabK01
namespace Go.Proofs.Ytkjjlfpghhefcab
open Go.RowKit
set_option linter.unusedSimpArgs false

def getA (L : List Int) (ah : List OpV) (x : OpV) (a : Nat) : Int × Nat × OpV :=
  if (fstM (L.drop a) 1024).2.2 ≠ 0 then ((fstM (L.drop a) 1024).2.2, a + (fstM (L.drop a) 1024).2.1.toNat, x)
  else if (fstM (L.drop a) 1024).1 = 0 then
    (if mayAt ah { x with op := 0 } = true then (0, a + (fstM (L.drop a) 1024).2.1.toNat, { x with op := 0 }) else (42, a, x))
  else if nextW (L.drop (a + (fstM (L.drop a) 1024).2.1.toNat)) 32 ≠ 0 then (nextW (L.drop (a + (fstM (L.drop a) 1024).2.1.toNat)) 32, a + (fstM (L.drop a) 1024).2.1.toNat + nextN (L.drop (a + (fstM (L.drop a) 1024).2.1.toNat)) 32, x)
  else (if mayAt ah { x with op := (fstM (L.drop a) 1024).1, node := (L.drop (a + (fstM (L.drop a) 1024).2.1.toNat)).take 32 } = true then (0, a + (fstM (L.drop a) 1024).2.1.toNat + 32, { x with op := (fstM (L.drop a) 1024).1, node := (L.drop (a + (fstM (L.drop a) 1024).2.1.toNat)).take 32 }) else (42, a, x))
def getF (L : List Int) (ah : List OpV) (i : Nat) (x : OpV) (a : Nat) : Int × Nat × OpV :=
  if i = 0 then ((byt (L.drop a) 65536).1, a + (byt (L.drop a) 65536).2.1, { x with key := strOfNums (byt (L.drop a) 65536).2.2 })
  else if i = 1 then ((byt (L.drop a) 65536).1, a + (byt (L.drop a) 65536).2.1, { x with text := strOfNums (byt (L.drop a) 65536).2.2 })
  else if i = 2 then ((fstM (L.drop a) 18446744073709551615).2.2, a + (fstM (L.drop a) 18446744073709551615).2.1.toNat, { x with n := if (fstM (L.drop a) 18446744073709551615).2.2 = 0 then zag (fstM (L.drop a) 18446744073709551615).1 else 0 })
  else getA L ah x a
def GetPost (p g : Nat) (s : ByteArray) (R : Int × Nat × OpV) (w : World) (e : Ending) (w' : World) : Prop :=
  ∃ er, e = .returned er ∧ (Grown w w' fun k => k = p ∨ k = g) ∧
    ((R.1 = 0 ∧ er = .nilIface ∧ InAt w' p s R.2.1 none ∧ Blk w' g 59 (opA R.2.2) ∧ OpOk R.2.2) ∨ (R.1 ≠ 0 ∧ ∃ q, w.heap.size ≤ q ∧ er = err q ∧ BadAt w' q R.1 R.2.1))
theorem byt_l (D : List Int) (mm : Int) : (byt D mm).2.2.length ≤ D.length ∧ (Byts D → Byts (byt D mm).2.2) := by
  unfold byt
  split
  · exact ⟨by simp only [List.length_take, List.length_drop]; omega, fun h => (h.drop _).take _⟩
  · exact ⟨by simp, fun _ => Byts.nil⟩
theorem str_size {l : List Int} (h : Byts l) : (strOfNums l).size = l.length := by rw [← lst_len, lst_nums h]
theorem fst_rng (D : List Int) (hD : Byts D) (mm : Int) (hmm : 0 ≤ mm) : 0 ≤ (fstM D mm).1 ∧ (fstM D mm).1 ≤ mm := by
  by_cases h : (fstM D mm).2.2 = 0
  · exact fstM_le D mm hD h
  · have := ((fstM_shape D mm).1 h).1; omega
theorem err_step {w w1 w' : World} {why : Int} {a : Nat} {bad : Option Nat} {er : Value} (h : ErrAs w w1 why a bad er) (hk : ∀ q, BadAt w1 q why a → BadAt w' q why a) :
    (why = 0 ∧ er = .nilIface ∧ bad = none) ∨ (why ≠ 0 ∧ ∃ q, w.heap.size ≤ q ∧ er = err q ∧ BadAt w' q why a) := by
  rcases h with ⟨h1, h2, h3⟩ | ⟨h1, q, h2, h3, h4, h5⟩
  · exact .inl ⟨h1, h3, h2⟩
  · exact .inr ⟨h1, q, h2, h4, hk q h5⟩
theorem get0_any (p g : Nat) (s : ByteArray) (a : Nat) (x : OpV) (vA : Value) (ah : List OpV) (w : World) (hI : InAt w p s a none) (hb : s.size ≤ 140737488355328) (hX : Blk w g 59 (opA x)) (hx : OpOk x) :
    Calls Try.prog 66 #[ptr p, ptr g, vA] w (GetPost p g s (getF (lst s) ah 0 x a) w) := by
  have HI := Keep.mk hI
  have HX := Keep.mk hX
  have Hne : Keep (p ≠ g) := ⟨blk_ne hI.blk hX (by decide)⟩
  obtain ⟨D, hD⟩ : ∃ D, D = (lst s).drop a := ⟨_, rfl⟩
  obtain ⟨W, hW⟩ : ∃ W, W = (byt D ((65536 : Nat) : Int)).1 := ⟨_, rfl⟩
  obtain ⟨N, hN⟩ : ∃ N, N = (byt D ((65536 : Nat) : Int)).2.1 := ⟨_, rfl⟩
  obtain ⟨l, hl⟩ : ∃ l, l = (byt D ((65536 : Nat) : Int)).2.2 := ⟨_, rfl⟩
  obtain ⟨st, hst⟩ : ∃ st, st = strOfNums l := ⟨_, rfl⟩
  have hG : getF (lst s) ah 0 x a = (W, a + N, { x with key := st }) := by
    show ((byt ((lst s).drop a) 65536).1, a + (byt ((lst s).drop a) 65536).2.1, _) = _
    rw [hst, hl, hW, hN, hD]; rfl
  have HC := Keep.mk (itext_good p s a 65536 65536 (by decide) w hI hb (by decide) D hD W hW N hN l hl st hst)
  have hsz : st.size ≤ 140737488355328 := by
    have hby : Byts D := by rw [hD]; exact (lst_byts s).drop a
    have hl2 := byt_l D ((65536 : Nat) : Int)
    rw [hst, str_size (by rw [hl]; exact hl2.2 hby), hl]
    have h1 := hl2.1
    have h2 : D.length ≤ s.size := by rw [hD, List.length_drop, lst_len]; omega
    omega
  have HOk : Keep (OpOk { x with key := st }) := ⟨{ hx with key := hsz }⟩
  clear hD hW hN hl hst
  have HGk := Keep.mk hG
  clear hI hb hX hx hG
  have hG := HGk.out
  clear hG
  go_enter Try.func66, Try.ntmps66
  refine wp_seq_k fun K1 hK1 => ?_
  refine wp_region_list (WL.out ?_)
  refine WL.val (by kernel_rfl) (.nilIface) (by go_simp) ?_
  simp only [Act.put, List.setIfInBounds_toArray, List.set_cons_zero, List.set_cons_succ]
  refine WL.nil ?_
  refine hK1 _ _ ?_
  refine wp_seq_k fun K2 hK2 => ?_
  refine wp_region_list (WL.out ?_)
  refine WL.val (by kernel_rfl) (.pointer (some ⟨p, 0, none⟩)) (by go_simp) ?_
  simp only [Act.put, List.setIfInBounds_toArray, List.set_cons_zero, List.set_cons_succ]
  refine WL.callF (by kernel_rfl) 67 _ _ rfl Try.in67 #[ptr p, .int .i64 65536] (by simp [Act.eval]) ?_
  refine (HC.out).mono ?_
  rintro e w1 ⟨bad, er, rfl, h1, h2, h3⟩
  refine ⟨_, rfl, ?_⟩
  have H1 := Keep.mk h1
  have H2 := Keep.mk h2
  have H3 := Keep.mk h3
  have HX1 := Keep.mk (h2.blk HX.out (fun e => Hne.out e.symm))
  have c1 := HX1.out.c 1 (opA_1 x)
  have f1 := HX1.out.frozen 1
  clear h1 h2 h3
  simp only [Act.put, List.setIfInBounds_toArray, List.set_cons_zero, List.set_cons_succ]
  refine WL.val (by kernel_rfl) (.tuple #[.string st, er]) (by go_simp) ?_
  simp only [Act.put, List.setIfInBounds_toArray, List.set_cons_zero, List.set_cons_succ]
  refine WL.val (by kernel_rfl) (.string st) (by go_simp) ?_
  simp only [Act.put, List.setIfInBounds_toArray, List.set_cons_zero, List.set_cons_succ]
  refine WL.val (by kernel_rfl) (er) (by go_simp) ?_
  simp only [Act.put, List.setIfInBounds_toArray, List.set_cons_zero, List.set_cons_succ]
  refine WL.val (by kernel_rfl) (.string st) (by go_simp) ?_
  simp only [Act.put, List.setIfInBounds_toArray, List.set_cons_zero, List.set_cons_succ]
  refine WL.val (by kernel_rfl) (er) (by go_simp) ?_
  simp only [Act.put, List.setIfInBounds_toArray, List.set_cons_zero, List.set_cons_succ]
  refine WL.nil ?_
  refine hK2 _ _ ?_
  refine wp_seq_k fun K3 hK3 => ?_
  refine wp_region_list (WL.out ?_)
  refine WL.val (by kernel_rfl) (.pointer (some ⟨g, 0, none⟩)) (by go_simp) ?_
  simp only [Act.put, List.setIfInBounds_toArray, List.set_cons_zero, List.set_cons_succ]
  refine WL.val (by kernel_rfl) (.string st) (by go_simp) ?_
  simp only [Act.put, List.setIfInBounds_toArray, List.set_cons_zero, List.set_cons_succ]
  refine WL.val (by kernel_rfl) (.pointer (some ⟨g, 0, none⟩)) (by go_simp) ?_
  simp only [Act.put, List.setIfInBounds_toArray, List.set_cons_zero, List.set_cons_succ]
  refine WL.val (by kernel_rfl) (.pointer (some ⟨g, 1, none⟩)) (by go_simp) ?_
  simp only [Act.put, List.setIfInBounds_toArray, List.set_cons_zero, List.set_cons_succ]
  refine WL.cell (by kernel_rfl) (w1.setCell ⟨g, 1, none⟩ (.string st)) (by go_simp) ?_
  simp only [Act.put]
  refine WL.nil ?_
  refine hK3 _ _ ?_
  refine wp_seq_k fun K4 hK4 => ?_
  refine wp_region_list (WL.out ?_)
  refine WL.val (by kernel_rfl) (er) (by go_simp) ?_
  simp only [Act.put, List.setIfInBounds_toArray, List.set_cons_zero, List.set_cons_succ]
  refine WL.val (by kernel_rfl) (er) (by go_simp) ?_
  simp only [Act.put, List.setIfInBounds_toArray, List.set_cons_zero, List.set_cons_succ]
  refine WL.nil ?_
  refine hK4 _ _ ?_
  refine wp_ret ?_
  go_ret
  have hXn := HX1.out.set 1 (.string st)
  rw [set_1] at hXn
  refine ⟨er, rfl, ?_, ?_⟩
  · exact (H2.out.mono fun _ _ h => .inl h).trans (Grown.setCell w1 g 1 _ fun _ => .inr rfl)
  · rw [HGk.out]
    rcases err_step H3.out (w' := w1.setCell ⟨g, 1, none⟩ (.string st)) (fun q hq => hq.set_ne (blk_ne hq HX1.out (by decide)) _) with ⟨h1, h2, h3⟩ | h
    · subst h3
      exact .inl ⟨h1, h2, ⟨H1.out.blk.set_ne (fun e => Hne.out e) _, H1.out.le⟩, hXn, HOk.out⟩
    · exact .inr h
theorem get1_any (p g : Nat) (s : ByteArray) (a : Nat) (x : OpV) (vA : Value) (ah : List OpV) (w : World) (hI : InAt w p s a none) (hb : s.size ≤ 140737488355328) (hX : Blk w g 59 (opA x)) (hx : OpOk x) :
    Calls Try.prog 70 #[ptr p, ptr g, vA] w (GetPost p g s (getF (lst s) ah 1 x a) w) := by
  have HI := Keep.mk hI
  have HX := Keep.mk hX
  have Hne : Keep (p ≠ g) := ⟨blk_ne hI.blk hX (by decide)⟩
  obtain ⟨D, hD⟩ : ∃ D, D = (lst s).drop a := ⟨_, rfl⟩
  obtain ⟨W, hW⟩ : ∃ W, W = (byt D ((65536 : Nat) : Int)).1 := ⟨_, rfl⟩
  obtain ⟨N, hN⟩ : ∃ N, N = (byt D ((65536 : Nat) : Int)).2.1 := ⟨_, rfl⟩
  obtain ⟨l, hl⟩ : ∃ l, l = (byt D ((65536 : Nat) : Int)).2.2 := ⟨_, rfl⟩
  obtain ⟨st, hst⟩ : ∃ st, st = strOfNums l := ⟨_, rfl⟩
  have hG : getF (lst s) ah 1 x a = (W, a + N, { x with text := st }) := by
    show ((byt ((lst s).drop a) 65536).1, a + (byt ((lst s).drop a) 65536).2.1, _) = _
    rw [hst, hl, hW, hN, hD]; rfl
  have HC := Keep.mk (itext_good p s a 65536 65536 (by decide) w hI hb (by decide) D hD W hW N hN l hl st hst)
  have hsz : st.size ≤ 140737488355328 := by
    have hby : Byts D := by rw [hD]; exact (lst_byts s).drop a
    have hl2 := byt_l D ((65536 : Nat) : Int)
    rw [hst, str_size (by rw [hl]; exact hl2.2 hby), hl]
    have h1 := hl2.1
    have h2 : D.length ≤ s.size := by rw [hD, List.length_drop, lst_len]; omega
    omega
  have HOk : Keep (OpOk { x with text := st }) := ⟨{ hx with text := hsz }⟩
  clear hD hW hN hl hst
  have HGk := Keep.mk hG
  clear hI hb hX hx hG
  have hG := HGk.out
  clear hG
  go_enter Try.func70, Try.ntmps70
  refine wp_seq_k fun K1 hK1 => ?_
  refine wp_region_list (WL.out ?_)
  refine WL.val (by kernel_rfl) (.nilIface) (by go_simp) ?_
  simp only [Act.put, List.setIfInBounds_toArray, List.set_cons_zero, List.set_cons_succ]
  refine WL.nil ?_
  refine hK1 _ _ ?_
  refine wp_seq_k fun K2 hK2 => ?_
  refine wp_region_list (WL.out ?_)
  refine WL.val (by kernel_rfl) (.pointer (some ⟨p, 0, none⟩)) (by go_simp) ?_
  simp only [Act.put, List.setIfInBounds_toArray, List.set_cons_zero, List.set_cons_succ]
  refine WL.callF (by kernel_rfl) 67 _ _ rfl Try.in67 #[ptr p, .int .i64 65536] (by simp [Act.eval]) ?_
  refine (HC.out).mono ?_
  rintro e w1 ⟨bad, er, rfl, h1, h2, h3⟩
  refine ⟨_, rfl, ?_⟩
  have H1 := Keep.mk h1
  have H2 := Keep.mk h2
  have H3 := Keep.mk h3
  have HX1 := Keep.mk (h2.blk HX.out (fun e => Hne.out e.symm))
  have c1 := HX1.out.c 2 (opA_2 x)
  have f1 := HX1.out.frozen 2
  clear h1 h2 h3
  simp only [Act.put, List.setIfInBounds_toArray, List.set_cons_zero, List.set_cons_succ]
  refine WL.val (by kernel_rfl) (.tuple #[.string st, er]) (by go_simp) ?_
  simp only [Act.put, List.setIfInBounds_toArray, List.set_cons_zero, List.set_cons_succ]
  refine WL.val (by kernel_rfl) (.string st) (by go_simp) ?_
  simp only [Act.put, List.setIfInBounds_toArray, List.set_cons_zero, List.set_cons_succ]
  refine WL.val (by kernel_rfl) (er) (by go_simp) ?_
  simp only [Act.put, List.setIfInBounds_toArray, List.set_cons_zero, List.set_cons_succ]
  refine WL.val (by kernel_rfl) (.string st) (by go_simp) ?_
  simp only [Act.put, List.setIfInBounds_toArray, List.set_cons_zero, List.set_cons_succ]
  refine WL.val (by kernel_rfl) (er) (by go_simp) ?_
  simp only [Act.put, List.setIfInBounds_toArray, List.set_cons_zero, List.set_cons_succ]
  refine WL.nil ?_
  refine hK2 _ _ ?_
  refine wp_seq_k fun K3 hK3 => ?_
  refine wp_region_list (WL.out ?_)
  refine WL.val (by kernel_rfl) (.pointer (some ⟨g, 0, none⟩)) (by go_simp) ?_
  simp only [Act.put, List.setIfInBounds_toArray, List.set_cons_zero, List.set_cons_succ]
  refine WL.val (by kernel_rfl) (.string st) (by go_simp) ?_
  simp only [Act.put, List.setIfInBounds_toArray, List.set_cons_zero, List.set_cons_succ]
  refine WL.val (by kernel_rfl) (.pointer (some ⟨g, 0, none⟩)) (by go_simp) ?_
  simp only [Act.put, List.setIfInBounds_toArray, List.set_cons_zero, List.set_cons_succ]
  refine WL.val (by kernel_rfl) (.pointer (some ⟨g, 2, none⟩)) (by go_simp) ?_
  simp only [Act.put, List.setIfInBounds_toArray, List.set_cons_zero, List.set_cons_succ]
  refine WL.cell (by kernel_rfl) (w1.setCell ⟨g, 2, none⟩ (.string st)) (by go_simp) ?_
  simp only [Act.put]
  refine WL.nil ?_
  refine hK3 _ _ ?_
  refine wp_seq_k fun K4 hK4 => ?_
  refine wp_region_list (WL.out ?_)
  refine WL.val (by kernel_rfl) (er) (by go_simp) ?_
  simp only [Act.put, List.setIfInBounds_toArray, List.set_cons_zero, List.set_cons_succ]
  refine WL.val (by kernel_rfl) (er) (by go_simp) ?_
  simp only [Act.put, List.setIfInBounds_toArray, List.set_cons_zero, List.set_cons_succ]
  refine WL.nil ?_
  refine hK4 _ _ ?_
  refine wp_ret ?_
  go_ret
  have hXn := HX1.out.set 2 (.string st)
  rw [set_2] at hXn
  refine ⟨er, rfl, ?_, ?_⟩
  · exact (H2.out.mono fun _ _ h => .inl h).trans (Grown.setCell w1 g 2 _ fun _ => .inr rfl)
  · rw [HGk.out]
    rcases err_step H3.out (w' := w1.setCell ⟨g, 2, none⟩ (.string st)) (fun q hq => hq.set_ne (blk_ne hq HX1.out (by decide)) _) with ⟨h1, h2, h3⟩ | h
    · subst h3
      exact .inl ⟨h1, h2, ⟨H1.out.blk.set_ne (fun e => Hne.out e) _, H1.out.le⟩, hXn, HOk.out⟩
    · exact .inr h
theorem get2_any (p g : Nat) (s : ByteArray) (a : Nat) (x : OpV) (vA : Value) (ah : List OpV) (w : World) (hI : InAt w p s a none) (hb : s.size ≤ 140737488355328) (hX : Blk w g 59 (opA x)) (hx : OpOk x) :
    Calls Try.prog 74 #[ptr p, ptr g, vA] w (GetPost p g s (getF (lst s) ah 2 x a) w) := by
  have HI := Keep.mk hI
  have HX := Keep.mk hX
  have Hne : Keep (p ≠ g) := ⟨blk_ne hI.blk hX (by decide)⟩
  obtain ⟨R, hR⟩ : ∃ R, R = fstM ((lst s).drop a) 18446744073709551615 := ⟨_, rfl⟩
  obtain ⟨y, hy⟩ : ∃ y, y = if R.2.2 = 0 then zag R.1 else 0 := ⟨_, rfl⟩
  have hrg := fst_rng ((lst s).drop a) ((lst_byts s).drop a) 18446744073709551615 (by decide)
  rw [← hR] at hrg
  have hG : getF (lst s) ah 2 x a = (R.2.2, a + R.2.1.toNat, { x with n := y }) := by
    show ((fstM ((lst s).drop a) 18446744073709551615).2.2, _, _) = _
    rw [hy, hR]
  have HC := Keep.mk (isigned_good p s a w hI hb R hR y hy hrg.1 (by omega))
  have hyr : -9223372036854775808 ≤ y ∧ y ≤ 9223372036854775807 := by
    rw [hy]
    split
    · unfold zag; split <;> omega
    · omega
  have HOk : Keep (OpOk { x with n := y }) := ⟨{ hx with n1 := hyr.1, n2 := hyr.2 }⟩
  clear hR hy hrg hyr
  have HGk := Keep.mk hG
  clear hI hb hX hx hG
  have hG := HGk.out
  clear hG
  go_enter Try.func74, Try.ntmps74
  refine wp_seq_k fun K1 hK1 => ?_
  refine wp_region_list (WL.out ?_)
  refine WL.val (by kernel_rfl) (.nilIface) (by go_simp) ?_
  simp only [Act.put, List.setIfInBounds_toArray, List.set_cons_zero, List.set_cons_succ]
  refine WL.nil ?_
  refine hK1 _ _ ?_
  refine wp_seq_k fun K2 hK2 => ?_
  refine wp_region_list (WL.out ?_)
  refine WL.val (by kernel_rfl) (.pointer (some ⟨p, 0, none⟩)) (by go_simp) ?_
  simp only [Act.put, List.setIfInBounds_toArray, List.set_cons_zero, List.set_cons_succ]
  refine WL.callF (by kernel_rfl) 75 _ _ rfl Try.in75 #[ptr p] (by simp [Act.eval]) ?_
  refine (HC.out).mono ?_
  rintro e w1 ⟨bad, er, rfl, h1, h2, h3⟩
  refine ⟨_, rfl, ?_⟩
  have H1 := Keep.mk h1
  have H2 := Keep.mk h2
  have H3 := Keep.mk h3
  have HX1 := Keep.mk (h2.blk HX.out (fun e => Hne.out e.symm))
  have c1 := HX1.out.c 3 (opA_3 x)
  have f1 := HX1.out.frozen 3
  clear h1 h2 h3
  simp only [Act.put, List.setIfInBounds_toArray, List.set_cons_zero, List.set_cons_succ]
  refine WL.val (by kernel_rfl) (.tuple #[.int .i64 y, er]) (by go_simp) ?_
  simp only [Act.put, List.setIfInBounds_toArray, List.set_cons_zero, List.set_cons_succ]
  refine WL.val (by kernel_rfl) (.int .i64 y) (by go_simp) ?_
  simp only [Act.put, List.setIfInBounds_toArray, List.set_cons_zero, List.set_cons_succ]
  refine WL.val (by kernel_rfl) (er) (by go_simp) ?_
  simp only [Act.put, List.setIfInBounds_toArray, List.set_cons_zero, List.set_cons_succ]
  refine WL.val (by kernel_rfl) (.int .i64 y) (by go_simp) ?_
  simp only [Act.put, List.setIfInBounds_toArray, List.set_cons_zero, List.set_cons_succ]
  refine WL.val (by kernel_rfl) (er) (by go_simp) ?_
  simp only [Act.put, List.setIfInBounds_toArray, List.set_cons_zero, List.set_cons_succ]
  refine WL.nil ?_
  refine hK2 _ _ ?_
  refine wp_seq_k fun K3 hK3 => ?_
  refine wp_region_list (WL.out ?_)
  refine WL.val (by kernel_rfl) (.pointer (some ⟨g, 0, none⟩)) (by go_simp) ?_
  simp only [Act.put, List.setIfInBounds_toArray, List.set_cons_zero, List.set_cons_succ]
  refine WL.val (by kernel_rfl) (.int .i64 y) (by go_simp) ?_
  simp only [Act.put, List.setIfInBounds_toArray, List.set_cons_zero, List.set_cons_succ]
  refine WL.val (by kernel_rfl) (.pointer (some ⟨g, 0, none⟩)) (by go_simp) ?_
  simp only [Act.put, List.setIfInBounds_toArray, List.set_cons_zero, List.set_cons_succ]
  refine WL.val (by kernel_rfl) (.pointer (some ⟨g, 3, none⟩)) (by go_simp) ?_
  simp only [Act.put, List.setIfInBounds_toArray, List.set_cons_zero, List.set_cons_succ]
  refine WL.cell (by kernel_rfl) (w1.setCell ⟨g, 3, none⟩ (.int .i64 y)) (by go_simp) ?_
  simp only [Act.put]
  refine WL.nil ?_
  refine hK3 _ _ ?_
  refine wp_seq_k fun K4 hK4 => ?_
  refine wp_region_list (WL.out ?_)
  refine WL.val (by kernel_rfl) (er) (by go_simp) ?_
  simp only [Act.put, List.setIfInBounds_toArray, List.set_cons_zero, List.set_cons_succ]
  refine WL.val (by kernel_rfl) (er) (by go_simp) ?_
  simp only [Act.put, List.setIfInBounds_toArray, List.set_cons_zero, List.set_cons_succ]
  refine WL.nil ?_
  refine hK4 _ _ ?_
  refine wp_ret ?_
  go_ret
  have hXn := HX1.out.set 3 (.int .i64 y)
  rw [set_3] at hXn
  refine ⟨er, rfl, ?_, ?_⟩
  · exact (H2.out.mono fun _ _ h => .inl h).trans (Grown.setCell w1 g 3 _ fun _ => .inr rfl)
  · rw [HGk.out]
    rcases err_step H3.out (w' := w1.setCell ⟨g, 3, none⟩ (.int .i64 y)) (fun q hq => hq.set_ne (blk_ne hq HX1.out (by decide)) _) with ⟨h1, h2, h3⟩ | h
    · subst h3
      exact .inl ⟨h1, h2, ⟨H1.out.blk.set_ne (fun e => Hne.out e) _, H1.out.le⟩, hXn, HOk.out⟩
    · exact .inr h
set_option maxRecDepth 8000 in
set_option maxHeartbeats 2000000 in
theorem get3_any (p g : Nat) (s : ByteArray) (a : Nat) (x : OpV) (vA : Value) (ah : List OpV) (w : World) (hI : InAt w p s a none) (hb : s.size ≤ 140737488355328) (hX : Blk w g 59 (opA x)) (hx : OpOk x)
    (hA : ∀ wx, (Grown w wx fun k => k = p ∨ k = g) → OpsAt wx vA ah) (hal : ah.length ≤ 1024) :
    Calls Try.prog 78 #[ptr p, ptr g, vA] w (GetPost p g s (getF (lst s) ah 3 x a) w) := by
  have HI := Keep.mk hI
  have HX := Keep.mk hX
  have Hb := Keep.mk hb
  have HA := Keep.mk hA
  have HAl : Keep (ah.length ≤ 4398046511104) := ⟨by omega⟩
  have Hne : Keep (p ≠ g) := ⟨blk_ne hI.blk hX (by decide)⟩
  have hG : getF (lst s) ah 3 x a = getA (lst s) ah x a := rfl
  rw [hG]
  clear hG
  have hBy : Byts ((lst s).drop a) := (lst_byts s).drop a
  have hrg := fst_rng ((lst s).drop a) hBy 1024 (by decide)
  have hc := inum_good p s a 1024 w hI hb
  obtain ⟨G, hG⟩ : ∃ G, G = getA (lst s) ah x a := ⟨_, rfl⟩
  rw [← hG]
  unfold getA at hG
  have hc' : Calls Try.prog 32 #[ptr p, .int .u64 1024] w (RdPost p s (fstM ((lst s).drop a) 1024).2.2 (a + (fstM ((lst s).drop a) 1024).2.1.toNat) (.int .u64 (fstM ((lst s).drop a) 1024).1) w) := hc
  clear hc
  generalize fstM ((lst s).drop a) 1024 = R at *
  obtain ⟨rv, rn, re⟩ := R
  simp only at hG hc' hrg
  obtain ⟨a1, ha1⟩ : ∃ a1, a1 = a + rn.toNat := ⟨_, rfl⟩
  rw [← ha1] at hG hc'
  obtain ⟨D1, hD1⟩ : ∃ D1, D1 = (lst s).drop a1 := ⟨_, rfl⟩
  obtain ⟨W2, hW2⟩ : ∃ W2, W2 = nextW D1 32 := ⟨_, rfl⟩
  obtain ⟨N2, hN2⟩ : ∃ N2, N2 = nextN D1 32 := ⟨_, rfl⟩
  rw [← hD1, ← hW2, ← hN2] at hG
  have HC := Keep.mk hc'
  have Hrg := Keep.mk hrg
  have HD1 := Keep.mk hD1
  have HW2 := Keep.mk hW2
  have HN2 := Keep.mk hN2
  have HG1 : Keep (¬ re = 0 → G = (re, a1, x)) := ⟨fun h => by rw [hG, if_pos h]⟩
  have HG0 : Keep (re = 0 → rv = 0 → G = if mayAt ah { x with op := 0 } = true then (0, a1, { x with op := 0 }) else (42, a, x)) := ⟨fun h h2 => by rw [hG, if_neg (by simp [h]), if_pos h2]⟩
  have HGb : Keep (re = 0 → ¬ rv = 0 → ¬ W2 = 0 → G = (W2, a1 + N2, x)) := ⟨fun h h2 h3 => by rw [hG, if_neg (by simp [h]), if_neg h2, if_pos h3]⟩
  have HGn : Keep (re = 0 → ¬ rv = 0 → W2 = 0 → G = if mayAt ah { x with op := rv, node := D1.take 32 } = true then (0, a1 + 32, { x with op := rv, node := D1.take 32 }) else (42, a, x)) := ⟨fun h h2 h3 => by rw [hG, if_neg (by simp [h]), if_neg h2, if_neg (by simp [h3])]⟩
  have hN32 : W2 = 0 → N2 = 32 := fun h => by rw [hN2, (nextN_0 D1 32 (by rw [← hW2]; exact h)).1]; rfl
  have hlen : W2 = 0 → (D1.take 32).length = 32 := fun h => by
    have := (nextN_0 D1 32 (by rw [← hW2]; exact h)).2.2
    rw [List.length_take]; omega
  have hhl : W2 = 0 → hl 32 (hrd D1 W2) = D1.take 32 := fun h => by
    rw [← hl_hof (D1.take 32) (hlen h)]
    unfold hl
    apply List.map_congr_left
    intro i hi
    have hi' := List.mem_range.1 hi
    show (if W2 = 0 then D1.getD i 0 else 0) = (D1.take 32).getD i 0
    rw [if_pos h]
    simp [List.getD_eq_getElem?_getD, List.getElem?_take, hi']
  have hz1 : (-9223372036854775808 : Int) ≤ 0 := by decide
  have hz2 : (0 : Int) ≤ 9223372036854775807 := by decide
  have HOk0 : Keep (OpOk { x with op := 0 }) := ⟨{ hx with o1 := hz1, o2 := hz2 }⟩
  have hz3 : (-9223372036854775808 : Int) ≤ rv := by omega
  have hz4 : rv ≤ 9223372036854775807 := by omega
  have hz5 : Byts (D1.take 32) := by rw [hD1]; exact ((lst_byts s).drop a1).take 32
  have HOkn : Keep (W2 = 0 → OpOk { x with op := rv, node := D1.take 32 }) := ⟨fun h => { hx with o1 := hz3, o2 := hz4, node := hlen h, byts := hz5 }⟩
  clear hz1 hz2 hz3 hz4 hz5
  clear hI hb hX hx hA hal hBy hrg hc' hG ha1 hD1 hW2 hN2 hlen
  go_enter Try.func78, Try.ntmps78
  refine wp_seq_k fun K1 hK1 => ?_
  refine wp_region_list (WL.out ?_)
  refine WL.val (by kernel_rfl) (.nilIface) (by go_simp) ?_
  simp only [Act.put, List.setIfInBounds_toArray, List.set_cons_zero, List.set_cons_succ]
  refine WL.nil ?_
  refine hK1 _ _ ?_
  refine wp_seq_k fun K2 hK2 => ?_
  refine wp_region_list (WL.out ?_)
  refine WL.val (by kernel_rfl) (.pointer (some ⟨p, 0, none⟩)) (by go_simp) ?_
  simp only [Act.put, List.setIfInBounds_toArray, List.set_cons_zero, List.set_cons_succ]
  refine WL.callF (by kernel_rfl) 14 _ _ rfl Try.in14 #[ptr p] (by simp [Act.eval]) ?_
  refine (iat_any p s a none w HI.out).mono ?_
  rintro e w0 ⟨rfl, hw0⟩
  rw [hw0]
  clear hw0 w0
  refine ⟨_, rfl, ?_⟩
  simp only [Act.put, List.setIfInBounds_toArray, List.set_cons_zero, List.set_cons_succ]
  refine WL.val (by kernel_rfl) (.int .i64 (a : Int)) (by go_simp) ?_
  simp only [Act.put, List.setIfInBounds_toArray, List.set_cons_zero, List.set_cons_succ]
  refine WL.nil ?_
  refine hK2 _ _ ?_
  refine wp_seq_k fun K3 hK3 => ?_
  refine wp_region_list (WL.out ?_)
  refine WL.val (by kernel_rfl) (.pointer (some ⟨p, 0, none⟩)) (by go_simp) ?_
  simp only [Act.put, List.setIfInBounds_toArray, List.set_cons_zero, List.set_cons_succ]
  refine WL.callF (by kernel_rfl) 32 _ _ rfl Try.in32 #[ptr p, .int .u64 1024] (by simp [Act.eval]) ?_
  refine (HC.out).mono ?_
  rintro e w1 ⟨bad, er, rfl, h1, h2, h3⟩
  refine ⟨_, rfl, ?_⟩
  have HX1 := Keep.mk (h2.blk HX.out (fun e => Hne.out e.symm))
  have H1 := Keep.mk h1
  have H2 := Keep.mk h2
  have H3 := Keep.mk h3
  clear h1 h2 h3
  simp only [Act.put, List.setIfInBounds_toArray, List.set_cons_zero, List.set_cons_succ]
  refine WL.val (by kernel_rfl) (.tuple #[.int .u64 rv, er]) (by go_simp) ?_
  simp only [Act.put, List.setIfInBounds_toArray, List.set_cons_zero, List.set_cons_succ]
  refine WL.val (by kernel_rfl) (.int .u64 rv) (by go_simp) ?_
  simp only [Act.put, List.setIfInBounds_toArray, List.set_cons_zero, List.set_cons_succ]
  refine WL.val (by kernel_rfl) (er) (by go_simp) ?_
  simp only [Act.put, List.setIfInBounds_toArray, List.set_cons_zero, List.set_cons_succ]
  refine WL.val (by kernel_rfl) (.int .u64 rv) (by go_simp) ?_
  simp only [Act.put, List.setIfInBounds_toArray, List.set_cons_zero, List.set_cons_succ]
  refine WL.val (by kernel_rfl) (er) (by go_simp) ?_
  simp only [Act.put, List.setIfInBounds_toArray, List.set_cons_zero, List.set_cons_succ]
  refine WL.nil ?_
  refine hK3 _ _ ?_
  refine wp_seq_k fun K4 hK4 => ?_
  refine wp_seq_k fun K5 hK5 => ?_
  by_cases hE : re = 0
  · rcases H3.out with ⟨e1, rfl, rfl⟩ | ⟨e1, _⟩
    rotate_left
    · exact absurd hE e1
    have c36 := HX1.out.c 36 (opA_36 x)
    have f36 := HX1.out.frozen 36
    have hwn : IntKind.i64.wrap rv = rv := by rw [IntKind.wrap_i64]; have := Hrg.out; omega
    refine wp_region_list (WL.out ?_)
    refine WL.val (by kernel_rfl) (.nilIface) (by go_simp) ?_
    simp only [Act.put, List.setIfInBounds_toArray, List.set_cons_zero, List.set_cons_succ]
    refine WL.val (by kernel_rfl) (.bool false) (by go_simp) ?_
    simp only [Act.put, List.setIfInBounds_toArray, List.set_cons_zero, List.set_cons_succ]
    refine WL.nil ?_
    refine hK5 _ _ ?_
    refine wp_cond_false rfl ?_
    refine wp_skip ?_
    refine hK4 _ _ ?_
    refine wp_seq_k fun K6 hK6 => ?_
    refine wp_region_list (WL.out ?_)
    refine WL.val (by kernel_rfl) (.pointer (some ⟨g, 0, none⟩)) (by go_simp) ?_
    simp only [Act.put, List.setIfInBounds_toArray, List.set_cons_zero, List.set_cons_succ]
    refine WL.val (by kernel_rfl) (.int .u64 rv) (by go_simp) ?_
    simp only [Act.put, List.setIfInBounds_toArray, List.set_cons_zero, List.set_cons_succ]
    refine WL.val (by kernel_rfl) (.int .i64 rv) (by go_simp) ?_
    simp only [Act.put, List.setIfInBounds_toArray, List.set_cons_zero, List.set_cons_succ]
    refine WL.val (by kernel_rfl) (.pointer (some ⟨g, 0, none⟩)) (by go_simp) ?_
    simp only [Act.put, List.setIfInBounds_toArray, List.set_cons_zero, List.set_cons_succ]
    refine WL.val (by kernel_rfl) (.pointer (some ⟨g, 4, none⟩)) (by go_simp) ?_
    simp only [Act.put, List.setIfInBounds_toArray, List.set_cons_zero, List.set_cons_succ]
    refine WL.val (by kernel_rfl) (.pointer (some ⟨g, 36, none⟩)) (by go_simp) ?_
    simp only [Act.put, List.setIfInBounds_toArray, List.set_cons_zero, List.set_cons_succ]
    refine WL.cell (by kernel_rfl) (w1.setCell ⟨g, 36, none⟩ (.int .i64 rv)) (by go_simp) ?_
    have HX2 := Keep.mk (HX1.out.set 36 (.int .i64 rv))
    rw [set_36] at HX2
    have HI2 : Keep (InAt (w1.setCell ⟨g, 36, none⟩ (.int .i64 rv)) p s a1 none) := ⟨H1.out.blk.set_ne (fun e => Hne.out e) _, H1.out.le⟩
    have HG2 : Keep (Grown w (w1.setCell ⟨g, 36, none⟩ (.int .i64 rv)) fun k => k = p ∨ k = g) := ⟨(H2.out.mono fun _ _ h => .inl h).trans (Grown.setCell w1 g 36 _ fun _ => .inr rfl)⟩
    generalize w1.setCell ⟨g, 36, none⟩ (.int .i64 rv) = w2 at *
    clear c36 f36
    simp only [Act.put]
    refine WL.nil ?_
    refine hK6 _ _ ?_
    refine wp_seq_k fun K7 hK7 => ?_
    refine wp_seq_k fun K8 hK8 => ?_
    refine wp_region_list (WL.out ?_)
    refine WL.val (by kernel_rfl) (.int .u64 rv) (by go_simp) ?_
    simp only [Act.put, List.setIfInBounds_toArray, List.set_cons_zero, List.set_cons_succ]
    by_cases h6_1 : rv = 0
    · skip
      refine WL.val (by kernel_rfl) (.bool false) (by go_simp) ?_
      simp only [Act.put, List.setIfInBounds_toArray, List.set_cons_zero, List.set_cons_succ]
      refine WL.nil ?_
      refine hK8 _ _ ?_
      refine wp_cond_false rfl ?_
      refine wp_skip ?_
      refine hK7 _ _ ?_
      refine wp_seq_k fun K9 hK9 => ?_
      refine wp_seq_k fun K10 hK10 => ?_
      refine wp_region_list (WL.out ?_)
      refine WL.val (by kernel_rfl) (.pointer (some ⟨g, 0, none⟩)) (by go_simp) ?_
      simp only [Act.put, List.setIfInBounds_toArray, List.set_cons_zero, List.set_cons_succ]
      refine WL.val (by kernel_rfl) (.pointer (some ⟨g, 0, none⟩)) (by go_simp) ?_
      simp only [Act.put, List.setIfInBounds_toArray, List.set_cons_zero, List.set_cons_succ]
      have hrv0 := h6_1
      obtain ⟨x2, hx2⟩ : ∃ x2 : OpV, Keep (x2 = { x with op := 0 }) := ⟨_, ⟨rfl⟩⟩
      rw [h6_1] at HX2
      rw [← hx2.out] at HX2
      have HOk5 : Keep (OpOk x2) := ⟨by rw [hx2.out]; exact HOk0.out⟩
      refine WL.row (by kernel_rfl) 59 (.tmp 44) rfl g rfl 59 (opA x2) _ HX2.out Try.underlying59 rfl (Try.size59B x2) ?_
      simp only [Act.put, List.setIfInBounds_toArray, List.set_cons_zero, List.set_cons_succ]
      refine WL.val (by kernel_rfl) (vA) (by go_simp) ?_
      simp only [Act.put, List.setIfInBounds_toArray, List.set_cons_zero, List.set_cons_succ]
      refine WL.callF (by kernel_rfl) 61 _ _ rfl Try.in61 #[.agg (opA x2), vA] (by simp [Act.eval]) ?_
      refine (may_any x2 vA ah w2 HOk5.out (HA.out w2 HG2.out) HAl.out).mono ?_
      rintro e w6 ⟨rfl, h6⟩
      refine ⟨_, rfl, ?_⟩
      have HX6 := Keep.mk (HX2.out.below h6 HX2.out.lt)
      have HI6 : Keep (InAt w6 p s _ none) := ⟨HI2.out.blk.below h6 HI2.out.blk.lt, HI2.out.le⟩
      have HG6 : Keep (Grown w w6 fun k => k = p ∨ k = g) := ⟨HG2.out.trans (Grown.below h6)⟩
      clear h6
      simp only [Act.put, List.setIfInBounds_toArray, List.set_cons_zero, List.set_cons_succ]
      rcases Bool.eq_false_or_eq_true (!mayAt ah x2) with h11_5 | h11_5
      · have hmy : mayAt ah x2 = false := by simpa using h11_5
        refine WL.val (by kernel_rfl) (.bool true) (by go_simp) ?_
        simp only [Act.put, List.setIfInBounds_toArray, List.set_cons_zero, List.set_cons_succ]
        refine WL.nil ?_
        refine hK10 _ _ ?_
        refine wp_cond_true rfl ?_
        refine wp_seq_k fun K11 hK11 => ?_
        refine wp_region_list (WL.out ?_)
        refine WL.val (by kernel_rfl) (.int .i64 (a : Int)) (by go_simp) ?_
        simp only [Act.put, List.setIfInBounds_toArray, List.set_cons_zero, List.set_cons_succ]
        refine WL.bld (by kernel_rfl) 85 _ rfl [(0, .int .i64 42), (1, .int .i64 (a : Int))] (by simp [Act.eval]) #[.int .i64 42, .int .i64 (a : Int)] (by kernel_rfl) ?_
        simp only [Act.put, List.setIfInBounds_toArray, List.set_cons_zero, List.set_cons_succ]
        refine WL.box (by kernel_rfl) 85 (.tmp 50) rfl #[.int .i64 42, .int .i64 (a : Int)] rfl ?_
        simp only [Act.put, List.setIfInBounds_toArray, List.set_cons_zero, List.set_cons_succ]
        refine WL.val (by kernel_rfl) (.iface 66 (.pointer (some ⟨w6.heap.size, 0, none⟩))) (by go_simp) ?_
        simp only [Act.put, List.setIfInBounds_toArray, List.set_cons_zero, List.set_cons_succ]
        refine WL.val (by kernel_rfl) (.iface 66 (.pointer (some ⟨w6.heap.size, 0, none⟩))) (by go_simp) ?_
        simp only [Act.put, List.setIfInBounds_toArray, List.set_cons_zero, List.set_cons_succ]
        refine WL.nil ?_
        refine hK11 _ _ ?_
        refine wp_ret ?_
        go_ret
        exact ⟨err w6.heap.size, rfl, HG6.out.trans (Grown.alloc w6 _ _), by rw [HG0.out hE hrv0, ← hx2.out, if_neg (by rw [hmy]; decide)]; exact .inr ⟨(show (42 : Int) ≠ 0 by decide), _, HG6.out.size, rfl, Blk.new w6 85 _⟩⟩
      · have hmy : mayAt ah x2 = true := by simpa using h11_5
        refine WL.val (by kernel_rfl) (.bool false) (by go_simp) ?_
        simp only [Act.put, List.setIfInBounds_toArray, List.set_cons_zero, List.set_cons_succ]
        refine WL.nil ?_
        refine hK10 _ _ ?_
        refine wp_cond_false rfl ?_
        refine wp_skip ?_
        refine hK9 _ _ ?_
        refine wp_seq_k fun K12 hK12 => ?_
        refine wp_region_list (WL.out ?_)
        refine WL.val (by kernel_rfl) (.nilIface) (by go_simp) ?_
        simp only [Act.put, List.setIfInBounds_toArray, List.set_cons_zero, List.set_cons_succ]
        refine WL.nil ?_
        refine hK12 _ _ ?_
        refine wp_ret ?_
        go_ret
        exact ⟨.nilIface, rfl, HG6.out, by rw [HG0.out hE hrv0, ← hx2.out, if_pos hmy]; exact .inl ⟨rfl, rfl, HI6.out, HX6.out, HOk5.out⟩⟩
    · skip
      refine WL.val (by kernel_rfl) (.bool true) (by go_simp) ?_
      simp only [Act.put, List.setIfInBounds_toArray, List.set_cons_zero, List.set_cons_succ]
      refine WL.nil ?_
      refine hK8 _ _ ?_
      refine wp_cond_true rfl ?_
      refine wp_seq_k fun K13 hK13 => ?_
      refine wp_region_list (WL.out ?_)
      refine WL.val (by kernel_rfl) (.pointer (some ⟨p, 0, none⟩)) (by go_simp) ?_
      simp only [Act.put, List.setIfInBounds_toArray, List.set_cons_zero, List.set_cons_succ]
      refine WL.callF (by kernel_rfl) 84 _ _ rfl Try.in84 #[ptr p] (by simp [Act.eval]) ?_
      refine (ihash_good p s a1 w2 HI2.out Hb.out D1 HD1.out W2 HW2.out N2 HN2.out).mono ?_
      rintro e w3 ⟨bad3, er3, rfl, h1, h2, h3⟩
      refine ⟨_, rfl, ?_⟩
      have HX3 := Keep.mk (h2.blk HX2.out (fun e => Hne.out e.symm))
      have I1 := Keep.mk h1
      have I2 := Keep.mk h2
      have I3 := Keep.mk h3
      have HG3 : Keep (Grown w w3 fun k => k = p ∨ k = g) := ⟨HG2.out.trans (h2.mono fun _ _ h => .inl h)⟩
      clear h1 h2 h3
      simp only [Act.put, List.setIfInBounds_toArray, List.set_cons_zero, List.set_cons_succ]
      refine WL.val (by kernel_rfl) (.tuple #[.agg (bytesA 32 (hrd D1 W2)), er3]) (by go_simp) ?_
      simp only [Act.put, List.setIfInBounds_toArray, List.set_cons_zero, List.set_cons_succ]
      refine WL.val (by kernel_rfl) (.agg (bytesA 32 (hrd D1 W2))) (by go_simp) ?_
      simp only [Act.put, List.setIfInBounds_toArray, List.set_cons_zero, List.set_cons_succ]
      refine WL.val (by kernel_rfl) (er3) (by go_simp) ?_
      simp only [Act.put, List.setIfInBounds_toArray, List.set_cons_zero, List.set_cons_succ]
      refine WL.new (by kernel_rfl) 55 rfl _ Try.new55 ?_
      simp only [Act.put, List.setIfInBounds_toArray, List.set_cons_zero, List.set_cons_succ]
      refine WL.storeR (by kernel_rfl) 55 (.tmp 10) (.tmp 33) rfl w3.heap.size (bytesA 32 (hrd D1 W2)) rfl rfl 55 (bytesA 32 fun _ => 0) (Blk.new w3 55 _) (Try.size55B _) (bytesA_sizes _ _ _) (bytesA_one _ _) ?_
      have HV4 := Keep.mk ((Blk.new w3 55 (bytesA 32 fun _ => 0)).setRow (bytesA 32 (hrd D1 W2)))
      have B4 : Keep (Below w3.heap.size w3 ((w3.alloc (.cells (bytesA 32 fun _ => 0) 55)).setRow w3.heap.size (bytesA 32 (hrd D1 W2)))) := ⟨below_setRow (below_new w3 _) (Nat.le_refl _) _⟩
      generalize (w3.alloc (.cells (bytesA 32 fun _ => 0) 55)).setRow w3.heap.size (bytesA 32 (hrd D1 W2)) = w4 at *
      have HX4 := Keep.mk (HX3.out.below B4.out HX3.out.lt)
      have HG4 : Keep (Grown w w4 fun k => k = p ∨ k = g) := ⟨HG3.out.trans (Grown.below B4.out)⟩
      simp only [Act.put]
      refine WL.val (by kernel_rfl) (er3) (by go_simp) ?_
      simp only [Act.put, List.setIfInBounds_toArray, List.set_cons_zero, List.set_cons_succ]
      refine WL.nil ?_
      refine hK13 _ _ ?_
      refine wp_seq_k fun K14 hK14 => ?_
      refine wp_seq_k fun K15 hK15 => ?_
      by_cases hE2 : W2 = 0
      · rcases I3.out with ⟨e1, rfl, rfl⟩ | ⟨e1, _⟩
        rotate_left
        · exact absurd hE2 e1
        have HI4 : Keep (InAt w4 p s (a1 + N2) none) := ⟨I1.out.blk.below B4.out I1.out.blk.lt, I1.out.le⟩
        refine wp_region_list (WL.out ?_)
        refine WL.val (by kernel_rfl) (.nilIface) (by go_simp) ?_
        simp only [Act.put, List.setIfInBounds_toArray, List.set_cons_zero, List.set_cons_succ]
        refine WL.val (by kernel_rfl) (.bool false) (by go_simp) ?_
        simp only [Act.put, List.setIfInBounds_toArray, List.set_cons_zero, List.set_cons_succ]
        refine WL.nil ?_
        refine hK15 _ _ ?_
        refine wp_cond_false rfl ?_
        refine wp_skip ?_
        refine hK14 _ _ ?_
        refine wp_region_list (WL.out ?_)
        refine WL.val (by kernel_rfl) (.pointer (some ⟨g, 0, none⟩)) (by go_simp) ?_
        simp only [Act.put, List.setIfInBounds_toArray, List.set_cons_zero, List.set_cons_succ]
        refine WL.row (by kernel_rfl) 55 (.tmp 10) rfl w3.heap.size rfl 55 (bytesA 32 (hrd D1 W2)) _ HV4.out Try.underlying55 rfl (Try.size55B _) ?_
        simp only [Act.put, List.setIfInBounds_toArray, List.set_cons_zero, List.set_cons_succ]
        refine WL.val (by kernel_rfl) (.pointer (some ⟨g, 0, none⟩)) (by go_simp) ?_
        simp only [Act.put, List.setIfInBounds_toArray, List.set_cons_zero, List.set_cons_succ]
        refine WL.val (by kernel_rfl) (.pointer (some ⟨g, 4, none⟩)) (by go_simp) ?_
        simp only [Act.put, List.setIfInBounds_toArray, List.set_cons_zero, List.set_cons_succ]
        refine WL.val (by kernel_rfl) (.pointer (some ⟨g, 4, none⟩)) (by go_simp) ?_
        simp only [Act.put, List.setIfInBounds_toArray, List.set_cons_zero, List.set_cons_succ]
        refine WL.part (by kernel_rfl) 55 (.tmp 42) (.tmp 39) rfl g 4 (bytesA 32 (hrd D1 W2)) rfl rfl 59 (opA { x with op := rv }) HX4.out (Try.size55B _) (by rw [bytesA_size, opA_size]; decide) (bytesA_one _ _) _ (put_node { x with op := rv } (hrd D1 W2)) ?_
        have HX5 := Keep.mk (HX4.out.setRow (opA { x with op := rv, node := hl 32 (hrd D1 W2) }))
        have HI5 : Keep (InAt (w4.setRow g (opA { x with op := rv, node := hl 32 (hrd D1 W2) })) p s (a1 + N2) none) := ⟨HI4.out.blk.setRow_ne (fun e => Hne.out e) _, HI4.out.le⟩
        have HG5 : Keep (Grown w (w4.setRow g (opA { x with op := rv, node := hl 32 (hrd D1 W2) })) fun k => k = p ∨ k = g) := ⟨HG4.out.trans (Grown.setRow w4 g _ fun _ => .inr rfl)⟩
        rw [hhl hE2] at HX5 HI5 HG5 ⊢
        obtain ⟨x2, hx2⟩ : ∃ x2 : OpV, Keep (x2 = { x with op := rv, node := D1.take 32 }) := ⟨_, ⟨rfl⟩⟩
        rw [← hx2.out] at HX5 HI5 HG5 ⊢
        generalize w4.setRow g (opA x2) = w5 at *
        have HOk5 : Keep (OpOk x2) := ⟨by rw [hx2.out]; exact HOkn.out hE2⟩
        simp only [Act.put]
        refine WL.nil ?_
        refine hK7 _ _ ?_
        refine wp_seq_k fun K16 hK16 => ?_
        refine wp_seq_k fun K17 hK17 => ?_
        refine wp_region_list (WL.out ?_)
        refine WL.val (by kernel_rfl) (.pointer (some ⟨g, 0, none⟩)) (by go_simp) ?_
        simp only [Act.put, List.setIfInBounds_toArray, List.set_cons_zero, List.set_cons_succ]
        refine WL.val (by kernel_rfl) (.pointer (some ⟨g, 0, none⟩)) (by go_simp) ?_
        simp only [Act.put, List.setIfInBounds_toArray, List.set_cons_zero, List.set_cons_succ]
        refine WL.row (by kernel_rfl) 59 (.tmp 44) rfl g rfl 59 (opA x2) _ HX5.out Try.underlying59 rfl (Try.size59B x2) ?_
        simp only [Act.put, List.setIfInBounds_toArray, List.set_cons_zero, List.set_cons_succ]
        refine WL.val (by kernel_rfl) (vA) (by go_simp) ?_
        simp only [Act.put, List.setIfInBounds_toArray, List.set_cons_zero, List.set_cons_succ]
        refine WL.callF (by kernel_rfl) 61 _ _ rfl Try.in61 #[.agg (opA x2), vA] (by simp [Act.eval]) ?_
        refine (may_any x2 vA ah w5 HOk5.out (HA.out w5 HG5.out) HAl.out).mono ?_
        rintro e w6 ⟨rfl, h6⟩
        refine ⟨_, rfl, ?_⟩
        have HX6 := Keep.mk (HX5.out.below h6 HX5.out.lt)
        have HI6 : Keep (InAt w6 p s _ none) := ⟨HI5.out.blk.below h6 HI5.out.blk.lt, HI5.out.le⟩
        have HG6 : Keep (Grown w w6 fun k => k = p ∨ k = g) := ⟨HG5.out.trans (Grown.below h6)⟩
        clear h6
        simp only [Act.put, List.setIfInBounds_toArray, List.set_cons_zero, List.set_cons_succ]
        rcases Bool.eq_false_or_eq_true (!mayAt ah x2) with h11_5 | h11_5
        · have hmy : mayAt ah x2 = false := by simpa using h11_5
          refine WL.val (by kernel_rfl) (.bool true) (by go_simp) ?_
          simp only [Act.put, List.setIfInBounds_toArray, List.set_cons_zero, List.set_cons_succ]
          refine WL.nil ?_
          refine hK17 _ _ ?_
          refine wp_cond_true rfl ?_
          refine wp_seq_k fun K18 hK18 => ?_
          refine wp_region_list (WL.out ?_)
          refine WL.val (by kernel_rfl) (.int .i64 (a : Int)) (by go_simp) ?_
          simp only [Act.put, List.setIfInBounds_toArray, List.set_cons_zero, List.set_cons_succ]
          refine WL.bld (by kernel_rfl) 85 _ rfl [(0, .int .i64 42), (1, .int .i64 (a : Int))] (by simp [Act.eval]) #[.int .i64 42, .int .i64 (a : Int)] (by kernel_rfl) ?_
          simp only [Act.put, List.setIfInBounds_toArray, List.set_cons_zero, List.set_cons_succ]
          refine WL.box (by kernel_rfl) 85 (.tmp 50) rfl #[.int .i64 42, .int .i64 (a : Int)] rfl ?_
          simp only [Act.put, List.setIfInBounds_toArray, List.set_cons_zero, List.set_cons_succ]
          refine WL.val (by kernel_rfl) (.iface 66 (.pointer (some ⟨w6.heap.size, 0, none⟩))) (by go_simp) ?_
          simp only [Act.put, List.setIfInBounds_toArray, List.set_cons_zero, List.set_cons_succ]
          refine WL.val (by kernel_rfl) (.iface 66 (.pointer (some ⟨w6.heap.size, 0, none⟩))) (by go_simp) ?_
          simp only [Act.put, List.setIfInBounds_toArray, List.set_cons_zero, List.set_cons_succ]
          refine WL.nil ?_
          refine hK18 _ _ ?_
          refine wp_ret ?_
          go_ret
          exact ⟨err w6.heap.size, rfl, HG6.out.trans (Grown.alloc w6 _ _), by rw [HGn.out hE h6_1 hE2, ← hx2.out, if_neg (by rw [hmy]; decide)]; exact .inr ⟨(show (42 : Int) ≠ 0 by decide), _, HG6.out.size, rfl, Blk.new w6 85 _⟩⟩
        · have hmy : mayAt ah x2 = true := by simpa using h11_5
          refine WL.val (by kernel_rfl) (.bool false) (by go_simp) ?_
          simp only [Act.put, List.setIfInBounds_toArray, List.set_cons_zero, List.set_cons_succ]
          refine WL.nil ?_
          refine hK17 _ _ ?_
          refine wp_cond_false rfl ?_
          refine wp_skip ?_
          refine hK16 _ _ ?_
          refine wp_seq_k fun K19 hK19 => ?_
          refine wp_region_list (WL.out ?_)
          refine WL.val (by kernel_rfl) (.nilIface) (by go_simp) ?_
          simp only [Act.put, List.setIfInBounds_toArray, List.set_cons_zero, List.set_cons_succ]
          refine WL.nil ?_
          refine hK19 _ _ ?_
          refine wp_ret ?_
          go_ret
          exact ⟨.nilIface, rfl, HG6.out, by rw [HGn.out hE h6_1 hE2, ← hx2.out, if_pos hmy]; exact .inl ⟨rfl, rfl, by have h := HI6.out; rw [hN32 hE2] at h; exact h, HX6.out, HOk5.out⟩⟩
      · rcases I3.out with ⟨e1, _, _⟩ | ⟨_, q, hq, rfl, rfl, hbad⟩
        · exact absurd e1 hE2
        have Hbad := Keep.mk (hbad.below B4.out hbad.lt)
        have Hq := Keep.mk (Nat.le_trans HG2.out.size hq)
        clear hbad hq
        unfold err
        refine wp_region_list (WL.out ?_)
        refine WL.val (by kernel_rfl) (.iface 66 (ptr q)) (by go_simp) ?_
        simp only [Act.put, List.setIfInBounds_toArray, List.set_cons_zero, List.set_cons_succ]
        refine WL.val (by kernel_rfl) (.bool true) (by go_simp) ?_
        simp only [Act.put, List.setIfInBounds_toArray, List.set_cons_zero, List.set_cons_succ]
        refine WL.nil ?_
        refine hK15 _ _ ?_
        refine wp_cond_true rfl ?_
        refine wp_seq_k fun K20 hK20 => ?_
        refine wp_region_list (WL.out ?_)
        refine WL.val (by kernel_rfl) (.iface 66 (ptr q)) (by go_simp) ?_
        simp only [Act.put, List.setIfInBounds_toArray, List.set_cons_zero, List.set_cons_succ]
        refine WL.val (by kernel_rfl) (.iface 66 (ptr q)) (by go_simp) ?_
        simp only [Act.put, List.setIfInBounds_toArray, List.set_cons_zero, List.set_cons_succ]
        refine WL.nil ?_
        refine hK20 _ _ ?_
        refine wp_ret ?_
        go_ret
        exact ⟨err q, rfl, HG4.out, by rw [HGb.out hE h6_1 hE2]; exact .inr ⟨hE2, q, Hq.out, rfl, Hbad.out⟩⟩
  · rcases H3.out with ⟨e1, _, _⟩ | ⟨_, q, hq, rfl, rfl, hbad⟩
    · exact absurd e1 hE
    have Hbad := Keep.mk hbad
    clear hbad
    unfold err
    refine wp_region_list (WL.out ?_)
    refine WL.val (by kernel_rfl) (.iface 66 (ptr q)) (by go_simp) ?_
    simp only [Act.put, List.setIfInBounds_toArray, List.set_cons_zero, List.set_cons_succ]
    refine WL.val (by kernel_rfl) (.bool true) (by go_simp) ?_
    simp only [Act.put, List.setIfInBounds_toArray, List.set_cons_zero, List.set_cons_succ]
    refine WL.nil ?_
    refine hK5 _ _ ?_
    refine wp_cond_true rfl ?_
    refine wp_seq_k fun K21 hK21 => ?_
    refine wp_region_list (WL.out ?_)
    refine WL.val (by kernel_rfl) (.iface 66 (ptr q)) (by go_simp) ?_
    simp only [Act.put, List.setIfInBounds_toArray, List.set_cons_zero, List.set_cons_succ]
    refine WL.val (by kernel_rfl) (.iface 66 (ptr q)) (by go_simp) ?_
    simp only [Act.put, List.setIfInBounds_toArray, List.set_cons_zero, List.set_cons_succ]
    refine WL.nil ?_
    refine hK21 _ _ ?_
    refine wp_ret ?_
    go_ret
    exact ⟨err q, rfl, H2.out.mono fun _ _ h => .inl h, by rw [HG1.out hE]; exact .inr ⟨hE, q, hq, rfl, Hbad.out⟩⟩

def getFs (L : List Int) (ah : List OpV) : List Nat → OpV → Nat → Int × Nat × OpV
  | [], x, a => (0, a, x)
  | i :: is, x, a => if (getF L ah i x a).1 = 0 then getFs L ah is (getF L ah i x a).2.2 (getF L ah i x a).2.1 else getF L ah i x a
def getO (L : List Int) (ah : List OpV) (a : Nat) : Int × Nat × OpV :=
  if nextW (L.drop a) 1 ≠ 0 then (nextW (L.drop a) 1, a + nextN (L.drop a) 1, zeroOp)
  else if hasI ((L.drop a).getD 0 0) = [] then (40, a, zeroOp)
  else getFs L ah (hasI ((L.drop a).getD 0 0)) { zeroOp with kind := (L.drop a).getD 0 0 } (a + 1)
def OnePost (p : Nat) (s : ByteArray) (R : Int × Nat × OpV) (w : World) (e : Ending) (w' : World) : Prop :=
  ∃ x er, e = .returned (.tuple #[.agg (opA x), er]) ∧ (Grown w w' fun k => k = p) ∧
    ((R.1 = 0 ∧ x = R.2.2 ∧ er = .nilIface ∧ InAt w' p s R.2.1 none ∧ OpOk R.2.2) ∨ (R.1 ≠ 0 ∧ ∃ q, w.heap.size ≤ q ∧ er = err q ∧ BadAt w' q R.1 R.2.1))
theorem zero_ok : OpOk zeroOp := ⟨z32_len, z32_byts, by decide, by decide, by decide, by decide, by decide, by decide, by decide, by decide⟩
theorem zero_built (k : Int) : Try.prog.built 59 [(0, .int .i64 k)] = some (opA { zeroOp with kind := k }) := by kernel_rfl
theorem getFs_step (L : List Int) (ah : List OpV) (is : List Nat) (t : Nat) (ht : t < is.length) (x : OpV) (a : Nat) : getFs L ah (is.drop t) x a = if (getF L ah (is.getD t 0) x a).1 = 0 then getFs L ah (is.drop (t + 1)) (getF L ah (is.getD t 0) x a).2.2 (getF L ah (is.getD t 0) x a).2.1 else getF L ah (is.getD t 0) x a := by
  rw [List.drop_eq_getElem_cons ht, getFs]
  rw [show is.getD t 0 = is[t] by simp [List.getD_eq_getElem?_getD, ht]]
set_option maxRecDepth 8000 in
set_option maxHeartbeats 4000000 in
theorem getOne_any (p m : Nat) (s : ByteArray) (a : Nat) (vA : Value) (ah : List OpV) (w : World) (hI : InAt w p s a none) (hb : s.size ≤ 140737488355328) (hT : TabAt w m)
    (hA : ∀ wx, (Grown w wx fun k => k = p) → OpsAt wx vA ah) (hal : ah.length ≤ 1024) :
    Calls Try.prog 34 #[ptr p, .map (some m), vA] w (OnePost p s (getO (lst s) ah a) w) := by
  have HI := Keep.mk hI
  have HT := Keep.mk hT
  have Hb := Keep.mk hb
  have HA := Keep.mk hA
  have Hal := Keep.mk hal
  obtain ⟨R, hR⟩ : ∃ R, R = getO (lst s) ah a := ⟨_, rfl⟩
  rw [← hR]
  unfold getO at hR
  obtain ⟨D, hD⟩ : ∃ D, Keep (D = (lst s).drop a) := ⟨_, ⟨rfl⟩⟩
  obtain ⟨W, hW⟩ : ∃ W, Keep (W = nextW D 1) := ⟨_, ⟨rfl⟩⟩
  obtain ⟨N, hN⟩ : ∃ N, Keep (N = nextN D 1) := ⟨_, ⟨rfl⟩⟩
  obtain ⟨c, hc⟩ : ∃ c, Keep (c = if W = 0 then D.getD 0 0 else 0) := ⟨_, ⟨rfl⟩⟩
  rw [← hD.out, ← hW.out, ← hN.out] at hR
  have HcD : Keep (W = 0 → D.getD 0 0 = c) := ⟨fun h => by rw [hc.out, if_pos h]⟩
  have HR := Keep.mk hR
  clear hI hb hT hA hal hR
  go_enter Try.func34, Try.ntmps34
  refine wp_seq_k fun K1 hK1 => ?_
  refine wp_region_list (WL.out ?_)
  refine WL.new (by kernel_rfl) 59 rfl _ Try.new59 ?_
  have HZ0 := Keep.mk (Blk.new w 59 (opA zeroOp))
  have HG0 : Keep (Grown w (w.alloc (.cells (opA zeroOp) 59)) fun k => k = p) := ⟨Grown.alloc w _ _⟩
  have HI0 : Keep (InAt (w.alloc (.cells (opA zeroOp) 59)) p s a none) := ⟨HI.out.box _⟩
  have HT0 := Keep.mk (HT.out.below (below_new w (.cells (opA zeroOp) 59)))
  obtain ⟨gz, hgz⟩ : ∃ gz, Keep (gz = w.heap.size) := ⟨_, ⟨rfl⟩⟩
  have Hgz : Keep (w.heap.size ≤ gz) := ⟨Nat.le_of_eq hgz.out.symm⟩
  rw [← hgz.out] at HZ0 ⊢
  generalize w.alloc (.cells (opA zeroOp) 59) = w0 at *
  simp only [Act.put, List.setIfInBounds_toArray, List.set_cons_zero, List.set_cons_succ]
  refine WL.val (by kernel_rfl) (.nilIface) (by go_simp) ?_
  simp only [Act.put, List.setIfInBounds_toArray, List.set_cons_zero, List.set_cons_succ]
  refine WL.nil ?_
  refine hK1 _ _ ?_
  refine wp_seq_k fun K2 hK2 => ?_
  refine wp_region_list (WL.out ?_)
  refine WL.val (by kernel_rfl) (.pointer (some ⟨p, 0, none⟩)) (by go_simp) ?_
  simp only [Act.put, List.setIfInBounds_toArray, List.set_cons_zero, List.set_cons_succ]
  refine WL.callF (by kernel_rfl) 14 _ _ rfl Try.in14 #[ptr p] (by simp [Act.eval]) ?_
  refine (iat_any p s a none w0 HI0.out).mono ?_
  rintro e w0' ⟨rfl, hw0⟩
  rw [hw0]
  clear hw0 w0'
  refine ⟨_, rfl, ?_⟩
  simp only [Act.put, List.setIfInBounds_toArray, List.set_cons_zero, List.set_cons_succ]
  refine WL.val (by kernel_rfl) (.int .i64 (a : Int)) (by go_simp) ?_
  simp only [Act.put, List.setIfInBounds_toArray, List.set_cons_zero, List.set_cons_succ]
  refine WL.nil ?_
  refine hK2 _ _ ?_
  refine wp_seq_k fun K3 hK3 => ?_
  refine wp_region_list (WL.out ?_)
  refine WL.val (by kernel_rfl) (.pointer (some ⟨p, 0, none⟩)) (by go_simp) ?_
  simp only [Act.put, List.setIfInBounds_toArray, List.set_cons_zero, List.set_cons_succ]
  refine WL.callF (by kernel_rfl) 53 _ _ rfl Try.in53 #[ptr p] (by simp [Act.eval]) ?_
  refine (ibyte_good p s a w0 HI0.out Hb.out D hD.out W hW.out N hN.out c hc.out).mono ?_
  rintro e w1 ⟨bad, er, rfl, h1, h2, h3⟩
  refine ⟨_, rfl, ?_⟩
  have HZ1 := Keep.mk (h2.blk HZ0.out (blk_ne HZ0.out HI0.out.blk (by decide)))
  have HG1 : Keep (Grown w w1 fun k => k = p) := ⟨HG0.out.trans h2⟩
  have HT1 := Keep.mk (HT0.out.grown h2 (fun e => HT0.out.ne HI0.out.blk e) (fun g cs hg e => blk_ne hg HI0.out.blk (by decide) e))
  have H1 := Keep.mk h1
  have H3 := Keep.mk h3
  clear h1 h2 h3
  simp only [Act.put, List.setIfInBounds_toArray, List.set_cons_zero, List.set_cons_succ]
  refine WL.val (by kernel_rfl) (.tuple #[.int .u8 c, er]) (by go_simp) ?_
  simp only [Act.put, List.setIfInBounds_toArray, List.set_cons_zero, List.set_cons_succ]
  refine WL.val (by kernel_rfl) (.int .u8 c) (by go_simp) ?_
  simp only [Act.put, List.setIfInBounds_toArray, List.set_cons_zero, List.set_cons_succ]
  refine WL.val (by kernel_rfl) (er) (by go_simp) ?_
  simp only [Act.put, List.setIfInBounds_toArray, List.set_cons_zero, List.set_cons_succ]
  refine WL.val (by kernel_rfl) (.int .u8 c) (by go_simp) ?_
  simp only [Act.put, List.setIfInBounds_toArray, List.set_cons_zero, List.set_cons_succ]
  refine WL.val (by kernel_rfl) (er) (by go_simp) ?_
  simp only [Act.put, List.setIfInBounds_toArray, List.set_cons_zero, List.set_cons_succ]
  refine WL.nil ?_
  refine hK3 _ _ ?_
  refine wp_seq_k fun K4 hK4 => ?_
  refine wp_seq_k fun K5 hK5 => ?_
  by_cases hE : W = 0
  · rcases H3.out with ⟨e1, rfl, rfl⟩ | ⟨e1, _⟩
    rotate_left
    · exact absurd hE e1
    have hcr : 0 ≤ c ∧ c < 256 := by rw [hc.out, if_pos hE]; exact Byts.getD (by rw [hD.out]; exact (lst_byts s).drop a) 0
    have hwc : IntKind.i64.wrap c = c := by rw [IntKind.wrap_i64]; omega
    obtain ⟨xk, hxk⟩ : ∃ xk : OpV, Keep (xk = { zeroOp with kind := c }) := ⟨_, ⟨rfl⟩⟩
    have hcx : Keep (xk.kind = c) := ⟨by rw [hxk.out]⟩
    have Hcr := Keep.mk hcr
    clear hcr
    refine wp_region_list (WL.out ?_)
    refine WL.val (by kernel_rfl) (.nilIface) (by go_simp) ?_
    simp only [Act.put, List.setIfInBounds_toArray, List.set_cons_zero, List.set_cons_succ]
    refine WL.val (by kernel_rfl) (.bool false) (by go_simp) ?_
    simp only [Act.put, List.setIfInBounds_toArray, List.set_cons_zero, List.set_cons_succ]
    refine WL.nil ?_
    refine hK5 _ _ ?_
    refine wp_cond_false rfl ?_
    refine wp_skip ?_
    refine hK4 _ _ ?_
    refine wp_seq_k fun K6 hK6 => ?_
    refine wp_region_list (WL.out ?_)
    refine WL.val (by kernel_rfl) (.int .u8 c) (by go_simp) ?_
    simp only [Act.put, List.setIfInBounds_toArray, List.set_cons_zero, List.set_cons_succ]
    refine WL.val (by kernel_rfl) (.int .i64 c) (by go_simp) ?_
    simp only [Act.put, List.setIfInBounds_toArray, List.set_cons_zero, List.set_cons_succ]
    refine WL.bld (by kernel_rfl) 59 _ rfl [(0, .int .i64 c)] (by simp [Act.eval]) (opA { zeroOp with kind := c }) (zero_built c) ?_
    rw [← hxk.out]
    simp only [Act.put, List.setIfInBounds_toArray, List.set_cons_zero, List.set_cons_succ]
    refine WL.new (by kernel_rfl) 59 rfl _ Try.new59 ?_
    simp only [Act.put, List.setIfInBounds_toArray, List.set_cons_zero, List.set_cons_succ]
    refine WL.storeR (by kernel_rfl) 59 (.tmp 11) (.tmp 30) rfl w1.heap.size (opA xk) rfl rfl 59 (opA zeroOp) (Blk.new w1 59 _) (Try.size59B xk) (opA_sizes _ _) (opA_one xk) ?_
    have HX2 := Keep.mk ((Blk.new w1 59 (opA zeroOp)).setRow (opA xk))
    have B2 : Keep (Below w1.heap.size w1 ((w1.alloc (.cells (opA zeroOp) 59)).setRow w1.heap.size (opA xk))) := ⟨below_setRow (below_new w1 _) (Nat.le_refl _) _⟩
    obtain ⟨gx, hgx⟩ : ∃ gx, Keep (gx = w1.heap.size) := ⟨_, ⟨rfl⟩⟩
    have Hgx : Keep (w.heap.size ≤ gx) := ⟨by rw [hgx.out]; exact HG1.out.size⟩
    have Hzx : Keep (gz ≠ gx) := ⟨fun e => by have := HZ1.out.lt; rw [hgx.out] at e; omega⟩
    generalize (w1.alloc (.cells (opA zeroOp) 59)).setRow w1.heap.size (opA xk) = w2 at *
    rw [← hgx.out] at HX2 ⊢
    have HZ2 := Keep.mk (HZ1.out.below B2.out HZ1.out.lt)
    have HI2 : Keep (InAt w2 p s (a + N) none) := ⟨H1.out.blk.below B2.out H1.out.blk.lt, H1.out.le⟩
    have HG2 : Keep (Grown w w2 fun k => k = p) := ⟨HG1.out.trans (Grown.below B2.out)⟩
    have HT2 := Keep.mk (HT1.out.below B2.out)
    obtain ⟨vF, hvF, hlk⟩ := HT2.out.look2 c
    obtain ⟨fa, fc, rfl⟩ := hvF.form
    have HvF := Keep.mk hvF
    have hlk2 := (hlk w2 (Below.refl _ _)).2
    have k0 : w2.cell? ⟨gx, 0, none⟩ = some (.int .i64 c) := by have h := HX2.out.c 0 (opA_0 xk); rw [hcx.out] at h; exact h
    clear hvF hlk
    simp only [Act.put]
    refine WL.nil ?_
    refine hK6 _ _ ?_
    refine wp_seq_k fun K7 hK7 => ?_
    refine wp_region_list (WL.out ?_)
    refine WL.val (by kernel_rfl) (.map (some m)) (by go_simp) ?_
    simp only [Act.put, List.setIfInBounds_toArray, List.set_cons_zero, List.set_cons_succ]
    refine WL.val (by kernel_rfl) (.pointer (some ⟨gx, 0, none⟩)) (by go_simp) ?_
    simp only [Act.put, List.setIfInBounds_toArray, List.set_cons_zero, List.set_cons_succ]
    refine WL.val (by kernel_rfl) (.int .i64 c) (by go_simp) ?_
    simp only [Act.put, List.setIfInBounds_toArray, List.set_cons_zero, List.set_cons_succ]
    refine WL.val (by kernel_rfl) (.tuple #[.slice fa (hasI c).length fc, .bool (!(hasI c).isEmpty)]) (by go_simp) ?_
    simp only [Act.put, List.setIfInBounds_toArray, List.set_cons_zero, List.set_cons_succ]
    refine WL.val (by kernel_rfl) (.tuple #[.slice fa (hasI c).length fc, .bool (!(hasI c).isEmpty)]) (by go_simp) ?_
    simp only [Act.put, List.setIfInBounds_toArray, List.set_cons_zero, List.set_cons_succ]
    refine WL.val (by kernel_rfl) (.slice fa (hasI c).length fc) (by go_simp) ?_
    simp only [Act.put, List.setIfInBounds_toArray, List.set_cons_zero, List.set_cons_succ]
    refine WL.val (by kernel_rfl) (.bool (!(hasI c).isEmpty)) (by go_simp) ?_
    simp only [Act.put, List.setIfInBounds_toArray, List.set_cons_zero, List.set_cons_succ]
    refine WL.val (by kernel_rfl) (.slice fa (hasI c).length fc) (by go_simp) ?_
    simp only [Act.put, List.setIfInBounds_toArray, List.set_cons_zero, List.set_cons_succ]
    refine WL.val (by kernel_rfl) (.bool (!(hasI c).isEmpty)) (by go_simp) ?_
    simp only [Act.put, List.setIfInBounds_toArray, List.set_cons_zero, List.set_cons_succ]
    refine WL.nil ?_
    refine hK7 _ _ ?_
    refine wp_seq_k fun K8 hK8 => ?_
    refine wp_seq_k fun K9 hK9 => ?_
    refine wp_region_list (WL.out ?_)
    refine WL.val (by kernel_rfl) (.bool (!(hasI c).isEmpty)) (by go_simp) ?_
    simp only [Act.put, List.setIfInBounds_toArray, List.set_cons_zero, List.set_cons_succ]
    by_cases h7_1 : hasI c = []
    · have hem : (!(hasI c).isEmpty) = false := by rw [h7_1]; rfl
      refine WL.val (by kernel_rfl) (.bool true) (by go_simp) ?_
      simp only [Act.put, List.setIfInBounds_toArray, List.set_cons_zero, List.set_cons_succ]
      refine WL.nil ?_
      refine hK9 _ _ ?_
      refine wp_cond_true rfl ?_
      refine wp_seq_k fun K10 hK10 => ?_
      refine wp_region_list (WL.out ?_)
      refine WL.bld (by kernel_rfl) 59 _ rfl [] (by simp) (opA zeroOp) Try.built59 ?_
      simp only [Act.put, List.setIfInBounds_toArray, List.set_cons_zero, List.set_cons_succ]
      refine WL.val (by kernel_rfl) (.int .i64 (a : Int)) (by go_simp) ?_
      simp only [Act.put, List.setIfInBounds_toArray, List.set_cons_zero, List.set_cons_succ]
      refine WL.bld (by kernel_rfl) 85 _ rfl [(0, .int .i64 40), (1, .int .i64 (a : Int))] (by simp [Act.eval]) #[.int .i64 40, .int .i64 (a : Int)] (by kernel_rfl) ?_
      simp only [Act.put, List.setIfInBounds_toArray, List.set_cons_zero, List.set_cons_succ]
      refine WL.box (by kernel_rfl) 85 (.tmp 42) rfl #[.int .i64 40, .int .i64 (a : Int)] rfl ?_
      have HZ3 := Keep.mk (HZ2.out.alloc (.cells #[.int .i64 40, .int .i64 (a : Int)] 85))
      have HB3 := Keep.mk (Blk.new w2 85 #[.int .i64 40, .int .i64 (a : Int)])
      have HG3 : Keep (Grown w (w2.alloc (.cells #[.int .i64 40, .int .i64 (a : Int)] 85)) fun k => k = p) := ⟨HG2.out.trans (Grown.alloc w2 _ _)⟩
      generalize w2.alloc (.cells #[.int .i64 40, .int .i64 (a : Int)] 85) = w3 at *
      simp only [Act.put, List.setIfInBounds_toArray, List.set_cons_zero, List.set_cons_succ]
      refine WL.val (by kernel_rfl) (.iface 66 (.pointer (some ⟨w2.heap.size, 0, none⟩))) (by go_simp) ?_
      simp only [Act.put, List.setIfInBounds_toArray, List.set_cons_zero, List.set_cons_succ]
      refine WL.storeR (by kernel_rfl) 59 (.tmp 6) (.tmp 40) rfl gz (opA zeroOp) rfl rfl 59 (opA zeroOp) HZ3.out (Try.size59B _) rfl (opA_one _) ?_
      simp only [Act.put]
      refine WL.val (by kernel_rfl) (.iface 66 (.pointer (some ⟨w2.heap.size, 0, none⟩))) (by go_simp) ?_
      simp only [Act.put, List.setIfInBounds_toArray, List.set_cons_zero, List.set_cons_succ]
      refine WL.nil ?_
      refine hK10 _ _ ?_
      refine wp_ret ?_
      refine bodyPost_ret (v := .tuple #[.agg (opA zeroOp), .iface 66 (ptr w2.heap.size)]) (results_cell_row2 Try.results34 _ _ gz 59 _ (0, 0) _ _ rfl rfl (HZ3.out.setRow _) Try.underlying59 rfl (Try.size59B _)) rfl ?_
      refine ⟨zeroOp, err w2.heap.size, rfl, HG3.out.next (Grown.setRow w3 gz _ (S := fun k => k = gz) fun _ => rfl) (fun k hk e => by have := Hgz.out; omega), ?_⟩
      rw [HR.out, if_neg (by simp [hE]), HcD.out hE, if_pos h7_1]
      exact .inr ⟨(show (40 : Int) ≠ 0 by decide), w2.heap.size, HG2.out.size, rfl, HB3.out.setRow_ne (blk_ne HB3.out HZ3.out (by decide)) _⟩
    · have hem : (!(hasI c).isEmpty) = true := by simpa using h7_1
      refine WL.val (by kernel_rfl) (.bool false) (by go_simp) ?_
      simp only [Act.put, List.setIfInBounds_toArray, List.set_cons_zero, List.set_cons_succ]
      refine WL.nil ?_
      refine hK9 _ _ ?_
      refine wp_cond_false rfl ?_
      refine wp_skip ?_
      refine hK8 _ _ ?_
      refine wp_seq_k fun K11 hK11 => ?_
      refine wp_seq_k fun K12 hK12 => ?_
      refine wp_region_list (WL.out ?_)
      have hN1 : N = 1 := by rw [hN.out, (nextN_0 D 1 (by rw [← hW.out]; exact hE)).1]; rfl
      rw [hN1] at HI2
      have HRR : Keep (R = getFs (lst s) ah (hasI c) xk (a + 1)) := ⟨by rw [HR.out, if_neg (by simp [hE]), HcD.out hE, if_neg h7_1, ← hxk.out]⟩
      have Hi4 := Keep.mk (hasI_lt c)
      have Hn3 := Keep.mk (hasI_len c)
      have S3 : Keep (OpOk xk) := ⟨by rw [hxk.out]; exact { zero_ok with k1 := by show (-9223372036854775808 : Int) ≤ c; have := Hcr.out; omega, k2 := by show c ≤ (9223372036854775807 : Int); have := Hcr.out; omega }⟩
      clear HR h7_1 hem hlk2
      rename Keep (R = getFs _ _ _ _ _) => HR
      generalize hasI c = is at *
      have S1 := HI2
      have S2 := HX2
      have S4 := HvF
      have S5 := HG2
      have S6 := HZ2
      refine WL.val (by kernel_rfl) (.slice fa is.length fc) (by go_simp) ?_
      simp only [Act.put, List.setIfInBounds_toArray, List.set_cons_zero, List.set_cons_succ]
      refine WL.val (by kernel_rfl) (.int .i64 (is.length : Int)) (by go_simp) ?_
      simp only [Act.put, List.setIfInBounds_toArray, List.set_cons_zero, List.set_cons_succ]
      refine WL.val (by kernel_rfl) (.int .i64 0) (by go_simp) ?_
      simp only [Act.put, List.setIfInBounds_toArray, List.set_cons_zero, List.set_cons_succ]
      refine WL.nil ?_
      refine hK12 _ _ ?_
      refine wp_block ?_
      refine wp_loop (fun ac wr => ∃ (t : Nat) (u7 u15 u16 u48 u49 u50 u51 u52 u53 u54 u55 u56 u57 u58 u59 u60 : Value), ac = { tmps := #[.pointer (some ⟨p, 0, none⟩), .map (some m), vA, undef, undef, undef, .pointer (some ⟨gz, 0, none⟩), u7, .int .i64 (a : Int), .int .u8 c, .nilIface, .pointer (some ⟨gx, 0, none⟩), .slice fa is.length fc, .bool (!is.isEmpty), undef, u15, u16, .pointer (some ⟨p, 0, none⟩), .int .i64 (a : Int), .tuple #[.int .u8 c, .nilIface], .pointer (some ⟨p, 0, none⟩), .tuple #[.int .u8 c, .nilIface], .int .u8 c, .nilIface, .nilIface, .bool false, undef, undef, .int .u8 c, .int .i64 c, .agg (opA xk), .tuple #[.slice fa is.length fc, .bool (!is.isEmpty)], .map (some m), .pointer (some ⟨gx, 0, none⟩), .int .i64 c, .tuple #[.slice fa is.length fc, .bool (!is.isEmpty)], .slice fa is.length fc, .bool (!is.isEmpty), .bool (!is.isEmpty), .bool false, undef, undef, undef, undef, undef, .slice fa is.length fc, .int .i64 (is.length : Int), .int .i64 (t : Int), u48, u49, u50, u51, u52, u53, u54, u55, u56, u57, u58, u59, u60, undef], defers := [] } ∧ t ≤ is.length ∧ ∃ xt at_, getFs (lst s) ah is xk (a + 1) = getFs (lst s) ah (is.drop t) xt at_ ∧ InAt wr p s at_ none ∧ Blk wr gx 59 (opA xt) ∧ OpOk xt ∧ FieldsAt wr (.slice fa is.length fc) is ∧ (Grown w wr fun k => k = p) ∧ Blk wr gz 59 (opA zeroOp)) (fun a _ => is.length - (intOf (a.tmps.getD 47 undef)).toNat) ⟨0, .nilIface, undef, undef, undef, undef, undef, undef, undef, undef, undef, undef, undef, undef, undef, undef, undef, rfl, by omega, xk, a + 1, rfl, S1.out, S2.out, S3.out, S4.out, S5.out, S6.out⟩ ?_
      rintro ac wr ⟨t, u7, u15, u16, u48, u49, u50, u51, u52, u53, u54, u55, u56, u57, u58, u59, u60, rfl, ht, xt, at_, hC, hI, hX, hOk, hF, hG, hZ⟩
      by_cases htl : t < is.length
      · have htl' : (t : Int) < (is.length : Int) := by omega
        obtain ⟨gF, hfa, hr2⟩ := hF.at htl
        have hi4 : is.getD t 0 < 4 := Hi4.out _ (by simp [List.getD_eq_getElem?_getD, htl])
        have hst := getFs_step (lst s) ah is t htl xt at_
        generalize is.getD t 0 = i at *
        have hwr2 : IntKind.i64.wrap ((t : Int) + 1) = (t : Int) + 1 := by rw [IntKind.wrap_i64]; have := Hn3.out; omega
        have JC := Keep.mk hC
        have JI := Keep.mk hI
        have JX := Keep.mk hX
        have JOk := Keep.mk hOk
        have JF := Keep.mk hF
        have JG := Keep.mk hG
        have JZ := Keep.mk hZ
        have Jst := Keep.mk hst
        clear hC hI hX hOk hF hG hZ hst
        rcases (show i = 0 ∨ i = 1 ∨ i = 2 ∨ i = 3 by omega) with rfl | rfl | rfl | rfl
        · refine wp_seq_k fun K13 hK13 => ?_
          refine wp_region_list (WL.out ?_)
          refine WL.val (by kernel_rfl) (.bool true) (by go_simp) ?_
          simp only [Act.put, List.setIfInBounds_toArray, List.set_cons_zero, List.set_cons_succ]
          refine WL.nil ?_
          refine hK13 _ _ ?_
          refine wp_seq_k fun K14 hK14 => ?_
          refine wp_cond_true rfl ?_
          refine wp_skip ?_
          refine hK14 _ _ ?_
          refine wp_seq_k fun K15 hK15 => ?_
          refine wp_block ?_
          refine wp_seq_k fun K16 hK16 => ?_
          refine wp_region_list (WL.out ?_)
          refine WL.val (by kernel_rfl) (.pointer (some ⟨gF, 0 + t * 3, none⟩)) (by go_simp) ?_
          simp only [Act.put, List.setIfInBounds_toArray, List.set_cons_zero, List.set_cons_succ]
          refine WL.midA (by kernel_rfl) 95 (.tmp 49) rfl gF (0 + t * 3) rfl (fldA 0) _ hr2 Try.underlying95 rfl (Try.size95B 0) ?_
          simp only [Act.put, List.setIfInBounds_toArray, List.set_cons_zero, List.set_cons_succ]
          refine WL.new (by kernel_rfl) 95 rfl _ Try.new95 ?_
          simp only [Act.put, List.setIfInBounds_toArray, List.set_cons_zero, List.set_cons_succ]
          refine WL.storeR (by kernel_rfl) 95 (.tmp 15) (.tmp 50) rfl wr.heap.size (fldA 0) rfl rfl 95 noF (Blk.new wr 95 noF) (Try.size95B 0) (noF_sizes 0) (fldA_one 0) ?_
          have HN := Keep.mk ((Blk.new wr 95 noF).setRow (fldA 0))
          have HGq : Keep (Below wr.heap.size wr ((wr.alloc (.cells noF 95)).setRow wr.heap.size (fldA 0))) := ⟨below_setRow (below_new wr _) (Nat.le_refl _) _⟩
          generalize (wr.alloc (.cells noF 95)).setRow wr.heap.size (fldA 0) = wy at *
          have cf : wy.cell? ⟨wr.heap.size, 2, none⟩ = some (fnv 66) := HN.out.c 2 rfl
          unfold fnv at cf
          have HIy : Keep (InAt wy p s at_ none) := ⟨JI.out.blk.below HGq.out JI.out.blk.lt, JI.out.le⟩
          have HXy := Keep.mk (JX.out.below HGq.out JX.out.lt)
          have HGy : Keep (Grown w wy fun k => k = p) := ⟨JG.out.trans (Grown.below HGq.out)⟩
          simp only [Act.put]
          refine WL.nil ?_
          refine hK16 _ _ ?_
          refine wp_seq_k fun K17 hK17 => ?_
          refine wp_region_list (WL.out ?_)
          refine WL.val (by kernel_rfl) (.pointer (some ⟨wr.heap.size, 2, none⟩)) (by go_simp) ?_
          simp only [Act.put, List.setIfInBounds_toArray, List.set_cons_zero, List.set_cons_succ]
          refine WL.val (by kernel_rfl) (.func (.func 66) #[] #[]) (by go_simp) ?_
          simp only [Act.put, List.setIfInBounds_toArray, List.set_cons_zero, List.set_cons_succ]
          refine WL.val (by kernel_rfl) (.pointer (some ⟨p, 0, none⟩)) (by go_simp) ?_
          simp only [Act.put, List.setIfInBounds_toArray, List.set_cons_zero, List.set_cons_succ]
          refine WL.val (by kernel_rfl) (vA) (by go_simp) ?_
          simp only [Act.put, List.setIfInBounds_toArray, List.set_cons_zero, List.set_cons_succ]
          refine WL.callV (by kernel_rfl) 66 (.tmp 52) _ _ rfl rfl Try.in66 #[ptr p, ptr gx, vA] (by simp [Act.eval]) ?_
          refine (get0_any p gx s at_ xt vA ah wy HIy.out Hb.out HXy.out JOk.out).mono ?_
          rintro e w9 ⟨er, rfl, hg9, hc9⟩
          refine ⟨_, rfl, ?_⟩
          have HG9 : Keep (Grown w w9 fun k => k = p) := ⟨HGy.out.next hg9 fun k hk ho => ho.elim id fun e => by have := Hgx.out; omega⟩
          have Hgs : Keep (Grown wr w9 fun k => k = p ∨ k = gx) := ⟨(Grown.below HGq.out).trans hg9⟩
          have HZ9 := Keep.mk (Hgs.out.blk JZ.out (fun e => e.elim (fun e => blk_ne JZ.out JI.out.blk (by decide) e) (fun e => Hzx.out e)))
          have HC9 := Keep.mk hc9
          obtain ⟨G, hGG⟩ : ∃ G, Keep (G = getF (lst s) ah 0 xt at_) := ⟨_, ⟨rfl⟩⟩
          rw [← hGG.out] at HC9 Jst
          clear hg9 hc9 cf
          simp only [Act.put, List.setIfInBounds_toArray, List.set_cons_zero, List.set_cons_succ]
          refine WL.val (by kernel_rfl) (er) (by go_simp) ?_
          simp only [Act.put, List.setIfInBounds_toArray, List.set_cons_zero, List.set_cons_succ]
          refine WL.nil ?_
          refine hK17 _ _ ?_
          refine wp_seq_k fun K18 hK18 => ?_
          by_cases hE : G.1 = 0
          · rcases HC9.out with ⟨e1, rfl, e2, e3, e4⟩ | ⟨e1, _⟩
            rotate_left
            · exact absurd hE e1
            have K1 := Keep.mk e2
            have K2 := Keep.mk e3
            have K3 := Keep.mk e4
            clear e2 e3 e4
            refine wp_region_list (WL.out ?_)
            refine WL.val (by kernel_rfl) (.nilIface) (by go_simp) ?_
            simp only [Act.put, List.setIfInBounds_toArray, List.set_cons_zero, List.set_cons_succ]
            refine WL.val (by kernel_rfl) (.bool false) (by go_simp) ?_
            simp only [Act.put, List.setIfInBounds_toArray, List.set_cons_zero, List.set_cons_succ]
            refine WL.nil ?_
            refine hK18 _ _ ?_
            refine wp_cond_false rfl ?_
            refine wp_skip ?_
            refine hK15 _ _ ?_
            refine wp_region_list (WL.out ?_)
            refine WL.val (by kernel_rfl) (.int .i64 ((t : Int) + 1)) (by go_simp) ?_
            simp only [Act.put, List.setIfInBounds_toArray, List.set_cons_zero, List.set_cons_succ]
            refine WL.val (by kernel_rfl) (.int .i64 ((t : Int) + 1)) (by go_simp) ?_
            simp only [Act.put, List.setIfInBounds_toArray, List.set_cons_zero, List.set_cons_succ]
            refine WL.nil ?_
            rw [if_pos hE] at Jst
            refine ⟨⟨t + 1, u7, .pointer (some ⟨wr.heap.size, 0, none⟩), .nilIface, .bool true, .pointer (some ⟨gF, 0 + t * 3, none⟩), .agg (fldA 0), .pointer (some ⟨wr.heap.size, 2, none⟩), .func (.func 66) #[] #[], .pointer (some ⟨p, 0, none⟩), vA, .nilIface, .nilIface, .bool false, u58, u59, .int .i64 ((t : Int) + 1), rfl, by omega, G.2.2, G.2.1, JC.out.trans Jst.out, K1.out, K2.out, K3.out, JF.out.grown Hgs.out (fun g hg e => e.elim (fun e => blk_ne hg JI.out.blk (by decide) e) (fun e => blk_ne hg JX.out (by decide) e)), HG9.out, HZ9.out⟩, ?_⟩
            simp only [intOf]; show is.length - ((t : Int) + 1).toNat < is.length - ((t : Int)).toNat; omega
          · rcases HC9.out with ⟨e1, _⟩ | ⟨_, q, hq, rfl, hbad⟩
            · exact absurd e1 hE
            have Hbad := Keep.mk hbad
            have Hq := Keep.mk (Nat.le_trans (Nat.le_trans JG.out.size HGq.out.size) hq)
            clear hbad hq
            unfold err
            refine wp_region_list (WL.out ?_)
            refine WL.val (by kernel_rfl) (.iface 66 (ptr q)) (by go_simp) ?_
            simp only [Act.put, List.setIfInBounds_toArray, List.set_cons_zero, List.set_cons_succ]
            refine WL.val (by kernel_rfl) (.bool true) (by go_simp) ?_
            simp only [Act.put, List.setIfInBounds_toArray, List.set_cons_zero, List.set_cons_succ]
            refine WL.nil ?_
            refine hK18 _ _ ?_
            refine wp_cond_true rfl ?_
            refine wp_seq_k fun K19 hK19 => ?_
            refine wp_region_list (WL.out ?_)
            refine WL.bld (by kernel_rfl) 59 _ rfl [] (by simp) (opA zeroOp) Try.built59 ?_
            simp only [Act.put, List.setIfInBounds_toArray, List.set_cons_zero, List.set_cons_succ]
            refine WL.val (by kernel_rfl) (.iface 66 (ptr q)) (by go_simp) ?_
            simp only [Act.put, List.setIfInBounds_toArray, List.set_cons_zero, List.set_cons_succ]
            refine WL.storeR (by kernel_rfl) 59 (.tmp 6) (.tmp 58) rfl gz (opA zeroOp) rfl rfl 59 (opA zeroOp) HZ9.out (Try.size59B _) rfl (opA_one _) ?_
            simp only [Act.put]
            refine WL.val (by kernel_rfl) (.iface 66 (ptr q)) (by go_simp) ?_
            simp only [Act.put, List.setIfInBounds_toArray, List.set_cons_zero, List.set_cons_succ]
            refine WL.nil ?_
            refine hK19 _ _ ?_
            refine wp_ret ?_
            refine bodyPost_ret (v := .tuple #[.agg (opA zeroOp), .iface 66 (ptr q)]) (results_cell_row2 Try.results34 _ _ gz 59 _ (0, 0) _ _ rfl rfl (HZ9.out.setRow _) Try.underlying59 rfl (Try.size59B _)) rfl ?_
            refine ⟨zeroOp, err q, rfl, HG9.out.next (Grown.setRow w9 gz _ (S := fun k => k = gz) fun _ => rfl) (fun k hk e => by have := Hgz.out; omega), ?_⟩
            rw [HR.out, JC.out, Jst.out, if_neg hE]
            exact .inr ⟨hE, q, Hq.out, rfl, Hbad.out.setRow_ne (blk_ne Hbad.out HZ9.out (by decide)) _⟩
        · refine wp_seq_k fun K20 hK20 => ?_
          refine wp_region_list (WL.out ?_)
          refine WL.val (by kernel_rfl) (.bool true) (by go_simp) ?_
          simp only [Act.put, List.setIfInBounds_toArray, List.set_cons_zero, List.set_cons_succ]
          refine WL.nil ?_
          refine hK20 _ _ ?_
          refine wp_seq_k fun K21 hK21 => ?_
          refine wp_cond_true rfl ?_
          refine wp_skip ?_
          refine hK21 _ _ ?_
          refine wp_seq_k fun K22 hK22 => ?_
          refine wp_block ?_
          refine wp_seq_k fun K23 hK23 => ?_
          refine wp_region_list (WL.out ?_)
          refine WL.val (by kernel_rfl) (.pointer (some ⟨gF, 0 + t * 3, none⟩)) (by go_simp) ?_
          simp only [Act.put, List.setIfInBounds_toArray, List.set_cons_zero, List.set_cons_succ]
          refine WL.midA (by kernel_rfl) 95 (.tmp 49) rfl gF (0 + t * 3) rfl (fldA 1) _ hr2 Try.underlying95 rfl (Try.size95B 1) ?_
          simp only [Act.put, List.setIfInBounds_toArray, List.set_cons_zero, List.set_cons_succ]
          refine WL.new (by kernel_rfl) 95 rfl _ Try.new95 ?_
          simp only [Act.put, List.setIfInBounds_toArray, List.set_cons_zero, List.set_cons_succ]
          refine WL.storeR (by kernel_rfl) 95 (.tmp 15) (.tmp 50) rfl wr.heap.size (fldA 1) rfl rfl 95 noF (Blk.new wr 95 noF) (Try.size95B 1) (noF_sizes 1) (fldA_one 1) ?_
          have HN := Keep.mk ((Blk.new wr 95 noF).setRow (fldA 1))
          have HGq : Keep (Below wr.heap.size wr ((wr.alloc (.cells noF 95)).setRow wr.heap.size (fldA 1))) := ⟨below_setRow (below_new wr _) (Nat.le_refl _) _⟩
          generalize (wr.alloc (.cells noF 95)).setRow wr.heap.size (fldA 1) = wy at *
          have cf : wy.cell? ⟨wr.heap.size, 2, none⟩ = some (fnv 70) := HN.out.c 2 rfl
          unfold fnv at cf
          have HIy : Keep (InAt wy p s at_ none) := ⟨JI.out.blk.below HGq.out JI.out.blk.lt, JI.out.le⟩
          have HXy := Keep.mk (JX.out.below HGq.out JX.out.lt)
          have HGy : Keep (Grown w wy fun k => k = p) := ⟨JG.out.trans (Grown.below HGq.out)⟩
          simp only [Act.put]
          refine WL.nil ?_
          refine hK23 _ _ ?_
          refine wp_seq_k fun K24 hK24 => ?_
          refine wp_region_list (WL.out ?_)
          refine WL.val (by kernel_rfl) (.pointer (some ⟨wr.heap.size, 2, none⟩)) (by go_simp) ?_
          simp only [Act.put, List.setIfInBounds_toArray, List.set_cons_zero, List.set_cons_succ]
          refine WL.val (by kernel_rfl) (.func (.func 70) #[] #[]) (by go_simp) ?_
          simp only [Act.put, List.setIfInBounds_toArray, List.set_cons_zero, List.set_cons_succ]
          refine WL.val (by kernel_rfl) (.pointer (some ⟨p, 0, none⟩)) (by go_simp) ?_
          simp only [Act.put, List.setIfInBounds_toArray, List.set_cons_zero, List.set_cons_succ]
          refine WL.val (by kernel_rfl) (vA) (by go_simp) ?_
          simp only [Act.put, List.setIfInBounds_toArray, List.set_cons_zero, List.set_cons_succ]
          refine WL.callV (by kernel_rfl) 70 (.tmp 52) _ _ rfl rfl Try.in70 #[ptr p, ptr gx, vA] (by simp [Act.eval]) ?_
          refine (get1_any p gx s at_ xt vA ah wy HIy.out Hb.out HXy.out JOk.out).mono ?_
          rintro e w9 ⟨er, rfl, hg9, hc9⟩
          refine ⟨_, rfl, ?_⟩
          have HG9 : Keep (Grown w w9 fun k => k = p) := ⟨HGy.out.next hg9 fun k hk ho => ho.elim id fun e => by have := Hgx.out; omega⟩
          have Hgs : Keep (Grown wr w9 fun k => k = p ∨ k = gx) := ⟨(Grown.below HGq.out).trans hg9⟩
          have HZ9 := Keep.mk (Hgs.out.blk JZ.out (fun e => e.elim (fun e => blk_ne JZ.out JI.out.blk (by decide) e) (fun e => Hzx.out e)))
          have HC9 := Keep.mk hc9
          obtain ⟨G, hGG⟩ : ∃ G, Keep (G = getF (lst s) ah 1 xt at_) := ⟨_, ⟨rfl⟩⟩
          rw [← hGG.out] at HC9 Jst
          clear hg9 hc9 cf
          simp only [Act.put, List.setIfInBounds_toArray, List.set_cons_zero, List.set_cons_succ]
          refine WL.val (by kernel_rfl) (er) (by go_simp) ?_
          simp only [Act.put, List.setIfInBounds_toArray, List.set_cons_zero, List.set_cons_succ]
          refine WL.nil ?_
          refine hK24 _ _ ?_
          refine wp_seq_k fun K25 hK25 => ?_
          by_cases hE : G.1 = 0
          · rcases HC9.out with ⟨e1, rfl, e2, e3, e4⟩ | ⟨e1, _⟩
            rotate_left
            · exact absurd hE e1
            have K1 := Keep.mk e2
            have K2 := Keep.mk e3
            have K3 := Keep.mk e4
            clear e2 e3 e4
            refine wp_region_list (WL.out ?_)
            refine WL.val (by kernel_rfl) (.nilIface) (by go_simp) ?_
            simp only [Act.put, List.setIfInBounds_toArray, List.set_cons_zero, List.set_cons_succ]
            refine WL.val (by kernel_rfl) (.bool false) (by go_simp) ?_
            simp only [Act.put, List.setIfInBounds_toArray, List.set_cons_zero, List.set_cons_succ]
            refine WL.nil ?_
            refine hK25 _ _ ?_
            refine wp_cond_false rfl ?_
            refine wp_skip ?_
            refine hK22 _ _ ?_
            refine wp_region_list (WL.out ?_)
            refine WL.val (by kernel_rfl) (.int .i64 ((t : Int) + 1)) (by go_simp) ?_
            simp only [Act.put, List.setIfInBounds_toArray, List.set_cons_zero, List.set_cons_succ]
            refine WL.val (by kernel_rfl) (.int .i64 ((t : Int) + 1)) (by go_simp) ?_
            simp only [Act.put, List.setIfInBounds_toArray, List.set_cons_zero, List.set_cons_succ]
            refine WL.nil ?_
            rw [if_pos hE] at Jst
            refine ⟨⟨t + 1, u7, .pointer (some ⟨wr.heap.size, 0, none⟩), .nilIface, .bool true, .pointer (some ⟨gF, 0 + t * 3, none⟩), .agg (fldA 1), .pointer (some ⟨wr.heap.size, 2, none⟩), .func (.func 70) #[] #[], .pointer (some ⟨p, 0, none⟩), vA, .nilIface, .nilIface, .bool false, u58, u59, .int .i64 ((t : Int) + 1), rfl, by omega, G.2.2, G.2.1, JC.out.trans Jst.out, K1.out, K2.out, K3.out, JF.out.grown Hgs.out (fun g hg e => e.elim (fun e => blk_ne hg JI.out.blk (by decide) e) (fun e => blk_ne hg JX.out (by decide) e)), HG9.out, HZ9.out⟩, ?_⟩
            simp only [intOf]; show is.length - ((t : Int) + 1).toNat < is.length - ((t : Int)).toNat; omega
          · rcases HC9.out with ⟨e1, _⟩ | ⟨_, q, hq, rfl, hbad⟩
            · exact absurd e1 hE
            have Hbad := Keep.mk hbad
            have Hq := Keep.mk (Nat.le_trans (Nat.le_trans JG.out.size HGq.out.size) hq)
            clear hbad hq
            unfold err
            refine wp_region_list (WL.out ?_)
            refine WL.val (by kernel_rfl) (.iface 66 (ptr q)) (by go_simp) ?_
            simp only [Act.put, List.setIfInBounds_toArray, List.set_cons_zero, List.set_cons_succ]
            refine WL.val (by kernel_rfl) (.bool true) (by go_simp) ?_
            simp only [Act.put, List.setIfInBounds_toArray, List.set_cons_zero, List.set_cons_succ]
            refine WL.nil ?_
            refine hK25 _ _ ?_
            refine wp_cond_true rfl ?_
            refine wp_seq_k fun K26 hK26 => ?_
            refine wp_region_list (WL.out ?_)
            refine WL.bld (by kernel_rfl) 59 _ rfl [] (by simp) (opA zeroOp) Try.built59 ?_
            simp only [Act.put, List.setIfInBounds_toArray, List.set_cons_zero, List.set_cons_succ]
            refine WL.val (by kernel_rfl) (.iface 66 (ptr q)) (by go_simp) ?_
            simp only [Act.put, List.setIfInBounds_toArray, List.set_cons_zero, List.set_cons_succ]
            refine WL.storeR (by kernel_rfl) 59 (.tmp 6) (.tmp 58) rfl gz (opA zeroOp) rfl rfl 59 (opA zeroOp) HZ9.out (Try.size59B _) rfl (opA_one _) ?_
            simp only [Act.put]
            refine WL.val (by kernel_rfl) (.iface 66 (ptr q)) (by go_simp) ?_
            simp only [Act.put, List.setIfInBounds_toArray, List.set_cons_zero, List.set_cons_succ]
            refine WL.nil ?_
            refine hK26 _ _ ?_
            refine wp_ret ?_
            refine bodyPost_ret (v := .tuple #[.agg (opA zeroOp), .iface 66 (ptr q)]) (results_cell_row2 Try.results34 _ _ gz 59 _ (0, 0) _ _ rfl rfl (HZ9.out.setRow _) Try.underlying59 rfl (Try.size59B _)) rfl ?_
            refine ⟨zeroOp, err q, rfl, HG9.out.next (Grown.setRow w9 gz _ (S := fun k => k = gz) fun _ => rfl) (fun k hk e => by have := Hgz.out; omega), ?_⟩
            rw [HR.out, JC.out, Jst.out, if_neg hE]
            exact .inr ⟨hE, q, Hq.out, rfl, Hbad.out.setRow_ne (blk_ne Hbad.out HZ9.out (by decide)) _⟩
        · refine wp_seq_k fun K27 hK27 => ?_
          refine wp_region_list (WL.out ?_)
          refine WL.val (by kernel_rfl) (.bool true) (by go_simp) ?_
          simp only [Act.put, List.setIfInBounds_toArray, List.set_cons_zero, List.set_cons_succ]
          refine WL.nil ?_
          refine hK27 _ _ ?_
          refine wp_seq_k fun K28 hK28 => ?_
          refine wp_cond_true rfl ?_
          refine wp_skip ?_
          refine hK28 _ _ ?_
          refine wp_seq_k fun K29 hK29 => ?_
          refine wp_block ?_
          refine wp_seq_k fun K30 hK30 => ?_
          refine wp_region_list (WL.out ?_)
          refine WL.val (by kernel_rfl) (.pointer (some ⟨gF, 0 + t * 3, none⟩)) (by go_simp) ?_
          simp only [Act.put, List.setIfInBounds_toArray, List.set_cons_zero, List.set_cons_succ]
          refine WL.midA (by kernel_rfl) 95 (.tmp 49) rfl gF (0 + t * 3) rfl (fldA 2) _ hr2 Try.underlying95 rfl (Try.size95B 2) ?_
          simp only [Act.put, List.setIfInBounds_toArray, List.set_cons_zero, List.set_cons_succ]
          refine WL.new (by kernel_rfl) 95 rfl _ Try.new95 ?_
          simp only [Act.put, List.setIfInBounds_toArray, List.set_cons_zero, List.set_cons_succ]
          refine WL.storeR (by kernel_rfl) 95 (.tmp 15) (.tmp 50) rfl wr.heap.size (fldA 2) rfl rfl 95 noF (Blk.new wr 95 noF) (Try.size95B 2) (noF_sizes 2) (fldA_one 2) ?_
          have HN := Keep.mk ((Blk.new wr 95 noF).setRow (fldA 2))
          have HGq : Keep (Below wr.heap.size wr ((wr.alloc (.cells noF 95)).setRow wr.heap.size (fldA 2))) := ⟨below_setRow (below_new wr _) (Nat.le_refl _) _⟩
          generalize (wr.alloc (.cells noF 95)).setRow wr.heap.size (fldA 2) = wy at *
          have cf : wy.cell? ⟨wr.heap.size, 2, none⟩ = some (fnv 74) := HN.out.c 2 rfl
          unfold fnv at cf
          have HIy : Keep (InAt wy p s at_ none) := ⟨JI.out.blk.below HGq.out JI.out.blk.lt, JI.out.le⟩
          have HXy := Keep.mk (JX.out.below HGq.out JX.out.lt)
          have HGy : Keep (Grown w wy fun k => k = p) := ⟨JG.out.trans (Grown.below HGq.out)⟩
          simp only [Act.put]
          refine WL.nil ?_
          refine hK30 _ _ ?_
          refine wp_seq_k fun K31 hK31 => ?_
          refine wp_region_list (WL.out ?_)
          refine WL.val (by kernel_rfl) (.pointer (some ⟨wr.heap.size, 2, none⟩)) (by go_simp) ?_
          simp only [Act.put, List.setIfInBounds_toArray, List.set_cons_zero, List.set_cons_succ]
          refine WL.val (by kernel_rfl) (.func (.func 74) #[] #[]) (by go_simp) ?_
          simp only [Act.put, List.setIfInBounds_toArray, List.set_cons_zero, List.set_cons_succ]
          refine WL.val (by kernel_rfl) (.pointer (some ⟨p, 0, none⟩)) (by go_simp) ?_
          simp only [Act.put, List.setIfInBounds_toArray, List.set_cons_zero, List.set_cons_succ]
          refine WL.val (by kernel_rfl) (vA) (by go_simp) ?_
          simp only [Act.put, List.setIfInBounds_toArray, List.set_cons_zero, List.set_cons_succ]
          refine WL.callV (by kernel_rfl) 74 (.tmp 52) _ _ rfl rfl Try.in74 #[ptr p, ptr gx, vA] (by simp [Act.eval]) ?_
          refine (get2_any p gx s at_ xt vA ah wy HIy.out Hb.out HXy.out JOk.out).mono ?_
          rintro e w9 ⟨er, rfl, hg9, hc9⟩
          refine ⟨_, rfl, ?_⟩
          have HG9 : Keep (Grown w w9 fun k => k = p) := ⟨HGy.out.next hg9 fun k hk ho => ho.elim id fun e => by have := Hgx.out; omega⟩
          have Hgs : Keep (Grown wr w9 fun k => k = p ∨ k = gx) := ⟨(Grown.below HGq.out).trans hg9⟩
          have HZ9 := Keep.mk (Hgs.out.blk JZ.out (fun e => e.elim (fun e => blk_ne JZ.out JI.out.blk (by decide) e) (fun e => Hzx.out e)))
          have HC9 := Keep.mk hc9
          obtain ⟨G, hGG⟩ : ∃ G, Keep (G = getF (lst s) ah 2 xt at_) := ⟨_, ⟨rfl⟩⟩
          rw [← hGG.out] at HC9 Jst
          clear hg9 hc9 cf
          simp only [Act.put, List.setIfInBounds_toArray, List.set_cons_zero, List.set_cons_succ]
          refine WL.val (by kernel_rfl) (er) (by go_simp) ?_
          simp only [Act.put, List.setIfInBounds_toArray, List.set_cons_zero, List.set_cons_succ]
          refine WL.nil ?_
          refine hK31 _ _ ?_
          refine wp_seq_k fun K32 hK32 => ?_
          by_cases hE : G.1 = 0
          · rcases HC9.out with ⟨e1, rfl, e2, e3, e4⟩ | ⟨e1, _⟩
            rotate_left
            · exact absurd hE e1
            have K1 := Keep.mk e2
            have K2 := Keep.mk e3
            have K3 := Keep.mk e4
            clear e2 e3 e4
            refine wp_region_list (WL.out ?_)
            refine WL.val (by kernel_rfl) (.nilIface) (by go_simp) ?_
            simp only [Act.put, List.setIfInBounds_toArray, List.set_cons_zero, List.set_cons_succ]
            refine WL.val (by kernel_rfl) (.bool false) (by go_simp) ?_
            simp only [Act.put, List.setIfInBounds_toArray, List.set_cons_zero, List.set_cons_succ]
            refine WL.nil ?_
            refine hK32 _ _ ?_
            refine wp_cond_false rfl ?_
            refine wp_skip ?_
            refine hK29 _ _ ?_
            refine wp_region_list (WL.out ?_)
            refine WL.val (by kernel_rfl) (.int .i64 ((t : Int) + 1)) (by go_simp) ?_
            simp only [Act.put, List.setIfInBounds_toArray, List.set_cons_zero, List.set_cons_succ]
            refine WL.val (by kernel_rfl) (.int .i64 ((t : Int) + 1)) (by go_simp) ?_
            simp only [Act.put, List.setIfInBounds_toArray, List.set_cons_zero, List.set_cons_succ]
            refine WL.nil ?_
            rw [if_pos hE] at Jst
            refine ⟨⟨t + 1, u7, .pointer (some ⟨wr.heap.size, 0, none⟩), .nilIface, .bool true, .pointer (some ⟨gF, 0 + t * 3, none⟩), .agg (fldA 2), .pointer (some ⟨wr.heap.size, 2, none⟩), .func (.func 74) #[] #[], .pointer (some ⟨p, 0, none⟩), vA, .nilIface, .nilIface, .bool false, u58, u59, .int .i64 ((t : Int) + 1), rfl, by omega, G.2.2, G.2.1, JC.out.trans Jst.out, K1.out, K2.out, K3.out, JF.out.grown Hgs.out (fun g hg e => e.elim (fun e => blk_ne hg JI.out.blk (by decide) e) (fun e => blk_ne hg JX.out (by decide) e)), HG9.out, HZ9.out⟩, ?_⟩
            simp only [intOf]; show is.length - ((t : Int) + 1).toNat < is.length - ((t : Int)).toNat; omega
          · rcases HC9.out with ⟨e1, _⟩ | ⟨_, q, hq, rfl, hbad⟩
            · exact absurd e1 hE
            have Hbad := Keep.mk hbad
            have Hq := Keep.mk (Nat.le_trans (Nat.le_trans JG.out.size HGq.out.size) hq)
            clear hbad hq
            unfold err
            refine wp_region_list (WL.out ?_)
            refine WL.val (by kernel_rfl) (.iface 66 (ptr q)) (by go_simp) ?_
            simp only [Act.put, List.setIfInBounds_toArray, List.set_cons_zero, List.set_cons_succ]
            refine WL.val (by kernel_rfl) (.bool true) (by go_simp) ?_
            simp only [Act.put, List.setIfInBounds_toArray, List.set_cons_zero, List.set_cons_succ]
            refine WL.nil ?_
            refine hK32 _ _ ?_
            refine wp_cond_true rfl ?_
            refine wp_seq_k fun K33 hK33 => ?_
            refine wp_region_list (WL.out ?_)
            refine WL.bld (by kernel_rfl) 59 _ rfl [] (by simp) (opA zeroOp) Try.built59 ?_
            simp only [Act.put, List.setIfInBounds_toArray, List.set_cons_zero, List.set_cons_succ]
            refine WL.val (by kernel_rfl) (.iface 66 (ptr q)) (by go_simp) ?_
            simp only [Act.put, List.setIfInBounds_toArray, List.set_cons_zero, List.set_cons_succ]
            refine WL.storeR (by kernel_rfl) 59 (.tmp 6) (.tmp 58) rfl gz (opA zeroOp) rfl rfl 59 (opA zeroOp) HZ9.out (Try.size59B _) rfl (opA_one _) ?_
            simp only [Act.put]
            refine WL.val (by kernel_rfl) (.iface 66 (ptr q)) (by go_simp) ?_
            simp only [Act.put, List.setIfInBounds_toArray, List.set_cons_zero, List.set_cons_succ]
            refine WL.nil ?_
            refine hK33 _ _ ?_
            refine wp_ret ?_
            refine bodyPost_ret (v := .tuple #[.agg (opA zeroOp), .iface 66 (ptr q)]) (results_cell_row2 Try.results34 _ _ gz 59 _ (0, 0) _ _ rfl rfl (HZ9.out.setRow _) Try.underlying59 rfl (Try.size59B _)) rfl ?_
            refine ⟨zeroOp, err q, rfl, HG9.out.next (Grown.setRow w9 gz _ (S := fun k => k = gz) fun _ => rfl) (fun k hk e => by have := Hgz.out; omega), ?_⟩
            rw [HR.out, JC.out, Jst.out, if_neg hE]
            exact .inr ⟨hE, q, Hq.out, rfl, Hbad.out.setRow_ne (blk_ne Hbad.out HZ9.out (by decide)) _⟩
        · refine wp_seq_k fun K34 hK34 => ?_
          refine wp_region_list (WL.out ?_)
          refine WL.val (by kernel_rfl) (.bool true) (by go_simp) ?_
          simp only [Act.put, List.setIfInBounds_toArray, List.set_cons_zero, List.set_cons_succ]
          refine WL.nil ?_
          refine hK34 _ _ ?_
          refine wp_seq_k fun K35 hK35 => ?_
          refine wp_cond_true rfl ?_
          refine wp_skip ?_
          refine hK35 _ _ ?_
          refine wp_seq_k fun K36 hK36 => ?_
          refine wp_block ?_
          refine wp_seq_k fun K37 hK37 => ?_
          refine wp_region_list (WL.out ?_)
          refine WL.val (by kernel_rfl) (.pointer (some ⟨gF, 0 + t * 3, none⟩)) (by go_simp) ?_
          simp only [Act.put, List.setIfInBounds_toArray, List.set_cons_zero, List.set_cons_succ]
          refine WL.midA (by kernel_rfl) 95 (.tmp 49) rfl gF (0 + t * 3) rfl (fldA 3) _ hr2 Try.underlying95 rfl (Try.size95B 3) ?_
          simp only [Act.put, List.setIfInBounds_toArray, List.set_cons_zero, List.set_cons_succ]
          refine WL.new (by kernel_rfl) 95 rfl _ Try.new95 ?_
          simp only [Act.put, List.setIfInBounds_toArray, List.set_cons_zero, List.set_cons_succ]
          refine WL.storeR (by kernel_rfl) 95 (.tmp 15) (.tmp 50) rfl wr.heap.size (fldA 3) rfl rfl 95 noF (Blk.new wr 95 noF) (Try.size95B 3) (noF_sizes 3) (fldA_one 3) ?_
          have HN := Keep.mk ((Blk.new wr 95 noF).setRow (fldA 3))
          have HGq : Keep (Below wr.heap.size wr ((wr.alloc (.cells noF 95)).setRow wr.heap.size (fldA 3))) := ⟨below_setRow (below_new wr _) (Nat.le_refl _) _⟩
          generalize (wr.alloc (.cells noF 95)).setRow wr.heap.size (fldA 3) = wy at *
          have cf : wy.cell? ⟨wr.heap.size, 2, none⟩ = some (fnv 78) := HN.out.c 2 rfl
          unfold fnv at cf
          have HIy : Keep (InAt wy p s at_ none) := ⟨JI.out.blk.below HGq.out JI.out.blk.lt, JI.out.le⟩
          have HXy := Keep.mk (JX.out.below HGq.out JX.out.lt)
          have HGy : Keep (Grown w wy fun k => k = p) := ⟨JG.out.trans (Grown.below HGq.out)⟩
          simp only [Act.put]
          refine WL.nil ?_
          refine hK37 _ _ ?_
          refine wp_seq_k fun K38 hK38 => ?_
          refine wp_region_list (WL.out ?_)
          refine WL.val (by kernel_rfl) (.pointer (some ⟨wr.heap.size, 2, none⟩)) (by go_simp) ?_
          simp only [Act.put, List.setIfInBounds_toArray, List.set_cons_zero, List.set_cons_succ]
          refine WL.val (by kernel_rfl) (.func (.func 78) #[] #[]) (by go_simp) ?_
          simp only [Act.put, List.setIfInBounds_toArray, List.set_cons_zero, List.set_cons_succ]
          refine WL.val (by kernel_rfl) (.pointer (some ⟨p, 0, none⟩)) (by go_simp) ?_
          simp only [Act.put, List.setIfInBounds_toArray, List.set_cons_zero, List.set_cons_succ]
          refine WL.val (by kernel_rfl) (vA) (by go_simp) ?_
          simp only [Act.put, List.setIfInBounds_toArray, List.set_cons_zero, List.set_cons_succ]
          refine WL.callV (by kernel_rfl) 78 (.tmp 52) _ _ rfl rfl Try.in78 #[ptr p, ptr gx, vA] (by simp [Act.eval]) ?_
          refine (get3_any p gx s at_ xt vA ah wy HIy.out Hb.out HXy.out JOk.out (fun wx hx => HA.out wx (HGy.out.next hx fun k hk ho => ho.elim id fun e => by have := Hgx.out; omega)) Hal.out).mono ?_
          rintro e w9 ⟨er, rfl, hg9, hc9⟩
          refine ⟨_, rfl, ?_⟩
          have HG9 : Keep (Grown w w9 fun k => k = p) := ⟨HGy.out.next hg9 fun k hk ho => ho.elim id fun e => by have := Hgx.out; omega⟩
          have Hgs : Keep (Grown wr w9 fun k => k = p ∨ k = gx) := ⟨(Grown.below HGq.out).trans hg9⟩
          have HZ9 := Keep.mk (Hgs.out.blk JZ.out (fun e => e.elim (fun e => blk_ne JZ.out JI.out.blk (by decide) e) (fun e => Hzx.out e)))
          have HC9 := Keep.mk hc9
          obtain ⟨G, hGG⟩ : ∃ G, Keep (G = getF (lst s) ah 3 xt at_) := ⟨_, ⟨rfl⟩⟩
          rw [← hGG.out] at HC9 Jst
          clear hg9 hc9 cf
          simp only [Act.put, List.setIfInBounds_toArray, List.set_cons_zero, List.set_cons_succ]
          refine WL.val (by kernel_rfl) (er) (by go_simp) ?_
          simp only [Act.put, List.setIfInBounds_toArray, List.set_cons_zero, List.set_cons_succ]
          refine WL.nil ?_
          refine hK38 _ _ ?_
          refine wp_seq_k fun K39 hK39 => ?_
          by_cases hE : G.1 = 0
          · rcases HC9.out with ⟨e1, rfl, e2, e3, e4⟩ | ⟨e1, _⟩
            rotate_left
            · exact absurd hE e1
            have K1 := Keep.mk e2
            have K2 := Keep.mk e3
            have K3 := Keep.mk e4
            clear e2 e3 e4
            refine wp_region_list (WL.out ?_)
            refine WL.val (by kernel_rfl) (.nilIface) (by go_simp) ?_
            simp only [Act.put, List.setIfInBounds_toArray, List.set_cons_zero, List.set_cons_succ]
            refine WL.val (by kernel_rfl) (.bool false) (by go_simp) ?_
            simp only [Act.put, List.setIfInBounds_toArray, List.set_cons_zero, List.set_cons_succ]
            refine WL.nil ?_
            refine hK39 _ _ ?_
            refine wp_cond_false rfl ?_
            refine wp_skip ?_
            refine hK36 _ _ ?_
            refine wp_region_list (WL.out ?_)
            refine WL.val (by kernel_rfl) (.int .i64 ((t : Int) + 1)) (by go_simp) ?_
            simp only [Act.put, List.setIfInBounds_toArray, List.set_cons_zero, List.set_cons_succ]
            refine WL.val (by kernel_rfl) (.int .i64 ((t : Int) + 1)) (by go_simp) ?_
            simp only [Act.put, List.setIfInBounds_toArray, List.set_cons_zero, List.set_cons_succ]
            refine WL.nil ?_
            rw [if_pos hE] at Jst
            refine ⟨⟨t + 1, u7, .pointer (some ⟨wr.heap.size, 0, none⟩), .nilIface, .bool true, .pointer (some ⟨gF, 0 + t * 3, none⟩), .agg (fldA 3), .pointer (some ⟨wr.heap.size, 2, none⟩), .func (.func 78) #[] #[], .pointer (some ⟨p, 0, none⟩), vA, .nilIface, .nilIface, .bool false, u58, u59, .int .i64 ((t : Int) + 1), rfl, by omega, G.2.2, G.2.1, JC.out.trans Jst.out, K1.out, K2.out, K3.out, JF.out.grown Hgs.out (fun g hg e => e.elim (fun e => blk_ne hg JI.out.blk (by decide) e) (fun e => blk_ne hg JX.out (by decide) e)), HG9.out, HZ9.out⟩, ?_⟩
            simp only [intOf]; show is.length - ((t : Int) + 1).toNat < is.length - ((t : Int)).toNat; omega
          · rcases HC9.out with ⟨e1, _⟩ | ⟨_, q, hq, rfl, hbad⟩
            · exact absurd e1 hE
            have Hbad := Keep.mk hbad
            have Hq := Keep.mk (Nat.le_trans (Nat.le_trans JG.out.size HGq.out.size) hq)
            clear hbad hq
            unfold err
            refine wp_region_list (WL.out ?_)
            refine WL.val (by kernel_rfl) (.iface 66 (ptr q)) (by go_simp) ?_
            simp only [Act.put, List.setIfInBounds_toArray, List.set_cons_zero, List.set_cons_succ]
            refine WL.val (by kernel_rfl) (.bool true) (by go_simp) ?_
            simp only [Act.put, List.setIfInBounds_toArray, List.set_cons_zero, List.set_cons_succ]
            refine WL.nil ?_
            refine hK39 _ _ ?_
            refine wp_cond_true rfl ?_
            refine wp_seq_k fun K40 hK40 => ?_
            refine wp_region_list (WL.out ?_)
            refine WL.bld (by kernel_rfl) 59 _ rfl [] (by simp) (opA zeroOp) Try.built59 ?_
            simp only [Act.put, List.setIfInBounds_toArray, List.set_cons_zero, List.set_cons_succ]
            refine WL.val (by kernel_rfl) (.iface 66 (ptr q)) (by go_simp) ?_
            simp only [Act.put, List.setIfInBounds_toArray, List.set_cons_zero, List.set_cons_succ]
            refine WL.storeR (by kernel_rfl) 59 (.tmp 6) (.tmp 58) rfl gz (opA zeroOp) rfl rfl 59 (opA zeroOp) HZ9.out (Try.size59B _) rfl (opA_one _) ?_
            simp only [Act.put]
            refine WL.val (by kernel_rfl) (.iface 66 (ptr q)) (by go_simp) ?_
            simp only [Act.put, List.setIfInBounds_toArray, List.set_cons_zero, List.set_cons_succ]
            refine WL.nil ?_
            refine hK40 _ _ ?_
            refine wp_ret ?_
            refine bodyPost_ret (v := .tuple #[.agg (opA zeroOp), .iface 66 (ptr q)]) (results_cell_row2 Try.results34 _ _ gz 59 _ (0, 0) _ _ rfl rfl (HZ9.out.setRow _) Try.underlying59 rfl (Try.size59B _)) rfl ?_
            refine ⟨zeroOp, err q, rfl, HG9.out.next (Grown.setRow w9 gz _ (S := fun k => k = gz) fun _ => rfl) (fun k hk e => by have := Hgz.out; omega), ?_⟩
            rw [HR.out, JC.out, Jst.out, if_neg hE]
            exact .inr ⟨hE, q, Hq.out, rfl, Hbad.out.setRow_ne (blk_ne Hbad.out HZ9.out (by decide)) _⟩
      · have hte : Keep (t = is.length) := ⟨by omega⟩
        have htl' : ¬ (t : Int) < (is.length : Int) := by omega
        refine wp_seq_k fun K41 hK41 => ?_
        refine wp_region_list (WL.out ?_)
        refine WL.val (by kernel_rfl) (.bool false) (by go_simp) ?_
        simp only [Act.put, List.setIfInBounds_toArray, List.set_cons_zero, List.set_cons_succ]
        refine WL.nil ?_
        refine hK41 _ _ ?_
        refine wp_seq_k fun K42 hK42 => ?_
        refine wp_cond_false rfl ?_
        refine wp_exit ?_
        refine hK11 _ _ ?_
        refine wp_seq_k fun K43 hK43 => ?_
        refine wp_region_list (WL.out ?_)
        refine WL.row (by kernel_rfl) 59 (.tmp 11) rfl gx rfl 59 (opA xt) _ hX Try.underlying59 rfl (Try.size59B xt) ?_
        simp only [Act.put, List.setIfInBounds_toArray, List.set_cons_zero, List.set_cons_succ]
        refine WL.storeR (by kernel_rfl) 59 (.tmp 6) (.tmp 61) rfl gz (opA xt) rfl rfl 59 (opA zeroOp) hZ (Try.size59B _) (opA_sizes _ _) (opA_one _) ?_
        simp only [Act.put]
        refine WL.val (by kernel_rfl) (.nilIface) (by go_simp) ?_
        simp only [Act.put, List.setIfInBounds_toArray, List.set_cons_zero, List.set_cons_succ]
        refine WL.nil ?_
        refine hK43 _ _ ?_
        refine wp_ret ?_
        refine bodyPost_ret (v := .tuple #[.agg (opA xt), .nilIface]) (results_cell_row2 Try.results34 _ _ gz 59 _ (0, 0) _ _ rfl rfl (hZ.setRow _) Try.underlying59 rfl (Try.size59B _)) rfl ?_
        rw [hte.out, List.drop_length] at hC
        refine ⟨xt, .nilIface, rfl, hG.next (Grown.setRow wr gz _ (S := fun k => k = gz) fun _ => rfl) (fun k hk e => by have := Hgz.out; omega), ?_⟩
        rw [HR.out, hC]
        exact .inl ⟨rfl, rfl, rfl, ⟨hI.blk.setRow_ne (blk_ne hI.blk hZ (by decide)) _, hI.le⟩, hOk⟩
  · rcases H3.out with ⟨e1, _⟩ | ⟨_, q, hq, rfl, rfl, hbad⟩
    · exact absurd e1 hE
    have Hbad := Keep.mk hbad
    have Hq := Keep.mk (Nat.le_trans HG0.out.size hq)
    clear hbad hq
    unfold err
    refine wp_region_list (WL.out ?_)
    refine WL.val (by kernel_rfl) (.iface 66 (ptr q)) (by go_simp) ?_
    simp only [Act.put, List.setIfInBounds_toArray, List.set_cons_zero, List.set_cons_succ]
    refine WL.val (by kernel_rfl) (.bool true) (by go_simp) ?_
    simp only [Act.put, List.setIfInBounds_toArray, List.set_cons_zero, List.set_cons_succ]
    refine WL.nil ?_
    refine hK5 _ _ ?_
    refine wp_cond_true rfl ?_
    refine wp_seq_k fun K44 hK44 => ?_
    refine wp_region_list (WL.out ?_)
    refine WL.bld (by kernel_rfl) 59 _ rfl [] (by simp) (opA zeroOp) Try.built59 ?_
    simp only [Act.put, List.setIfInBounds_toArray, List.set_cons_zero, List.set_cons_succ]
    refine WL.val (by kernel_rfl) (.iface 66 (ptr q)) (by go_simp) ?_
    simp only [Act.put, List.setIfInBounds_toArray, List.set_cons_zero, List.set_cons_succ]
    refine WL.storeR (by kernel_rfl) 59 (.tmp 6) (.tmp 26) rfl gz (opA zeroOp) rfl rfl 59 (opA zeroOp) HZ1.out (Try.size59B _) rfl (opA_one _) ?_
    simp only [Act.put]
    refine WL.val (by kernel_rfl) (.iface 66 (ptr q)) (by go_simp) ?_
    simp only [Act.put, List.setIfInBounds_toArray, List.set_cons_zero, List.set_cons_succ]
    refine WL.nil ?_
    refine hK44 _ _ ?_
    refine wp_ret ?_
    refine bodyPost_ret (v := .tuple #[.agg (opA zeroOp), .iface 66 (ptr q)]) (results_cell_row2 Try.results34 _ _ gz 59 _ (0, 0) _ _ rfl rfl (HZ1.out.setRow _) Try.underlying59 rfl (Try.size59B _)) rfl ?_
    refine ⟨zeroOp, err q, rfl, HG1.out.next (Grown.setRow w1 gz _ (S := fun k => k = gz) fun _ => rfl) (fun k hk e => by have := Hgz.out; omega), ?_⟩
    rw [HR.out, if_pos hE]
    exact .inr ⟨hE, q, Hq.out, rfl, Hbad.out.setRow_ne (blk_ne Hbad.out HZ1.out (by decide)) _⟩

def OwnO (w : World) (v : Value) (l : List OpV) : Prop := w.ownsRow 0 59 37 v l.length (flatO l)
theorem OwnO.form {w : World} {v : Value} {l : List OpV} (h : OwnO w v l) : (v = .slice none 0 0 ∧ l = []) ∨ ∃ g cap cur, v = .slice (some ⟨g, 0, none⟩) l.length cap ∧ Blk w g 59 cur ∧ l.length ≤ cap ∧ cur.toList.take (l.length * 37) = flatO l := by
  rcases h.2 with ⟨rfl, h0⟩ | ⟨g, cap, cur, rfl, _, h3, h4, h5, h6, h7⟩
  · exact .inl ⟨rfl, List.eq_nil_of_length_eq_zero h0⟩
  · exact .inr ⟨g, cap, cur, rfl, h3, h4, h7⟩
theorem OwnO.ops {w : World} {v : Value} {l : List OpV} (h : OwnO w v l) : OpsAt w v l := by
  rcases h.form with ⟨rfl, rfl⟩ | ⟨g, cap, cur, rfl, h1, h2, h3⟩
  · exact .inl ⟨_, _, rfl, rfl⟩
  · exact ops_block h1 h3 h2
theorem OwnO.sl {w : World} {v : Value} {l : List OpV} (h : OwnO w v l) : ∃ a c, v = .slice a l.length c := h.ops.form
theorem OwnO.lt {w : World} {v : Value} {l : List OpV} (h : OwnO w v l) : ∀ k, v.ownBlock = some k → k < w.heap.size := fun k hk => (World.ownsRow.lt h k hk).2
theorem OwnO.grown {w w' : World} {v : Value} {l : List OpV} {S : Nat → Prop} (h : OwnO w v l) (hg : Grown w w' S) (hs : ∀ k, v.ownBlock = some k → ¬ S k) : OwnO w' v l := by
  refine ⟨h.1, ?_⟩
  rcases h.2 with h1 | ⟨g, cap, cur, rfl, h2, h3, h4⟩
  · exact .inl h1
  · exact .inr ⟨g, cap, cur, rfl, h2, hg.blk h3 (hs g rfl), h4⟩
theorem OwnO.below {w w' : World} {v : Value} {l : List OpV} (h : OwnO w v l) (hb : Below w.heap.size w w') : OwnO w' v l := h.grown (Grown.below (S := fun _ => False) hb) fun _ _ h => h
theorem OwnO.ne {w : World} {v : Value} {l : List OpV} {p : Nat} {T : TypeId} {cs : Array Value} (h : OwnO w v l) (hp : Blk w p T cs) (hT : T ≠ 59) : v.ownBlock ≠ some p := by
  intro e
  rcases h.form with ⟨rfl, _⟩ | ⟨g, cap, cur, rfl, h3, _⟩
  · simp [Value.ownBlock] at e
  · simp [Value.ownBlock] at e
    subst e
    exact hT (blk_type hp h3)
theorem ownO_empty (w : World) : OwnO (w.alloc (.cells #[] 59)) (.slice (some ⟨w.heap.size, 0, none⟩) 0 0) [] :=
  ⟨rfl, .inr ⟨w.heap.size, 0, #[], rfl, Nat.zero_le _, Blk.new w 59 #[], Nat.le_refl _, by decide, rfl, rfl⟩⟩
theorem Try.info59 : (Try.prog.info? 59).map (fun i => (i.zero, i.size, i.bytes)) = some (some (.agg (opA zeroOp)), 37, 88) := by kernel_rfl
theorem run_appO (w : World) (ty : TypeId) (v : Value) (l : List OpV) (hown : OwnO w v l) (g : Nat) (x : OpV) (hg : Blk w g 59 (opA x)) (hb : l.length ≤ 1000000000000) :
    ∃ v' w', (Builtin.append_ #[36, 36] ty #[v, .slice (some ⟨g, 0, none⟩) 1 1]).run Try.prog w = .ok v' w' ∧ OwnO w' v' (l ++ [x]) ∧ (Grown w w' fun k => v.ownBlock = some k) ∧ Moved w v v' := by
  obtain ⟨i, hi, hzz⟩ := Option.map_eq_some_iff.1 Try.info59
  simp only [Prod.mk.injEq] at hzz
  obtain ⟨hz, hsz, hby⟩ := hzz
  obtain ⟨v', w', hr, h1, h2, _, h3⟩ := run_append_own_at (P := Try.prog) w 0 36 ty 59 i (.agg (opA zeroOp)) 37 88 Try.underlying36 hi hz hsz hby (opA_size _) (by omega) v l.length (flatO l) hown ⟨g, 0, none⟩ 1 1 (opL x) (by rw [opL_len]) (fun j u hu => by
      rw [Addr.add_mid, Nat.zero_add, hg.cell]
      unfold opA
      rw [List.getElem?_toArray]; exact hu)
    (fun u hu => (Array.all_eq_true_iff_forall_mem.1 (opA_one x)) u (by unfold opA; simpa using hu)) (by unfold maxLen; omega) (by omega) (Nat.zero_le _)
  refine ⟨v', w', hr, ?_, Grown.of h2 fun k _ e => e, ?_⟩
  · unfold OwnO
    rw [List.length_append, show flatO (l ++ [x]) = flatO l ++ opL x by simp [flatO]]
    exact h1
  · rcases h3 with h3 | h3
    · exact .inl h3
    · exact .inr ⟨_, h3, Nat.le_refl _⟩
theorem WL.appO {ops : Array Oper} {rest : List Oper} {o : Oper} {a : Act} {w : World} {Q : Exit → Act → World → Prop} (hw : Region.wanted o (yielded ops a.tmps) = true) (s x : Operand)
    (ho : o.op = .call { callee := .builtin .append, args := #[s, x], argTypes := #[36, 36] }) (v : Value) (l : List OpV) (g : Nat) (y : OpV)
    (hs : a.eval s = v) (hx : a.eval x = .slice (some ⟨g, 0, none⟩) 1 1) (hown : OwnO w v l) (hg : Blk w g 59 (opA y)) (hb : l.length ≤ 1000000000000)
    (h : ∀ v' w', OwnO w' v' (l ++ [y]) → (Grown w w' fun k => v.ownBlock = some k) → Moved w v v' → WL Try.prog ops Q rest (a.put o.dst v') w') : WL Try.prog ops Q (o :: rest) a w :=
  ⟨wpList_wanted hw fun K hK => by
    obtain ⟨v', w', hr, h1, h2, h3⟩ := run_appO w o.type v l hown g y hg hb
    unfold Oper.wp execOp
    simp only [ho, resolve, invoke, builtin, Sem.run_bind, Sem.run_pure, Result.andThen_ok, List.map_toArray, List.map_cons, List.map_nil, hs, hx, hr]
    exact hK _ _ (h v' w' h1 h2 h3).out⟩
theorem bsO (x : OpV) (w : World) : (Instr.buildSlice 36 1 #[(0, .agg (opA x))]).run Try.prog w = .ok (.slice (some ⟨w.heap.size, 0, none⟩) 1 1) (w.alloc (.cells (opA x) 59)) := by kernel_rfl
theorem bsE (w : World) : (Instr.buildSlice 36 0 #[]).run Try.prog w = .ok (.slice (some ⟨w.heap.size, 0, none⟩) 0 0) (w.alloc (.cells #[] 59)) := by kernel_rfl
def getN (L : List Int) : Nat → List OpV → Nat → Int × Nat × List OpV
  | 0, l, a => (0, a, l)
  | n + 1, l, a => if (getO L l a).1 = 0 then getN L n (l ++ [(getO L l a).2.2]) (getO L l a).2.1 else ((getO L l a).1, (getO L l a).2.1, [])
def getL (L : List Int) (a : Nat) : Int × Nat × List OpV :=
  if (fstM (L.drop a) 1024).2.2 ≠ 0 then ((fstM (L.drop a) 1024).2.2, a + (fstM (L.drop a) 1024).2.1.toNat, []) else getN L (fstM (L.drop a) 1024).1.toNat [] (a + (fstM (L.drop a) 1024).2.1.toNat)
def ListPost (p : Nat) (s : ByteArray) (R : Int × Nat × List OpV) (w : World) (e : Ending) (w' : World) : Prop :=
  ∃ v er, e = .returned (.tuple #[v, er]) ∧ (Grown w w' fun k => k = p) ∧
    ((R.1 = 0 ∧ er = .nilIface ∧ OwnO w' v R.2.2 ∧ (∀ k, v.ownBlock = some k → w.heap.size ≤ k) ∧ InAt w' p s R.2.1 none ∧ (∀ x ∈ R.2.2, OpOk x) ∧ R.2.2.length ≤ 1024) ∨ (R.1 ≠ 0 ∧ v = .slice none 0 0 ∧ ∃ q, w.heap.size ≤ q ∧ er = err q ∧ BadAt w' q R.1 R.2.1))
set_option maxRecDepth 8000 in
set_option maxHeartbeats 4000000 in
theorem get_any (p : Nat) (s : ByteArray) (a : Nat) (w : World) (hI : InAt w p s a none) (hb : s.size ≤ 140737488355328) :
    Calls Try.prog 10 #[ptr p] w (ListPost p s (getL (lst s) a) w) := by
  have HI := Keep.mk hI
  have Hb := Keep.mk hb
  have hrg := fst_rng ((lst s).drop a) ((lst_byts s).drop a) 1024 (by decide)
  have hc := inum_good p s a 1024 w hI hb
  obtain ⟨G, hG⟩ : ∃ G, G = getL (lst s) a := ⟨_, rfl⟩
  rw [← hG]
  unfold getL at hG
  have hc' : Calls Try.prog 32 #[ptr p, .int .u64 1024] w (RdPost p s (fstM ((lst s).drop a) 1024).2.2 (a + (fstM ((lst s).drop a) 1024).2.1.toNat) (.int .u64 (fstM ((lst s).drop a) 1024).1) w) := hc
  clear hc
  generalize fstM ((lst s).drop a) 1024 = R at *
  obtain ⟨rv, rn, re⟩ := R
  simp only at hG hc' hrg
  obtain ⟨a1, ha1⟩ : ∃ a1, a1 = a + rn.toNat := ⟨_, rfl⟩
  rw [← ha1] at hG hc'
  have HC := Keep.mk hc'
  have Hrg := Keep.mk hrg
  have HG1 : Keep (¬ re = 0 → G = (re, a1, [])) := ⟨fun h => by rw [hG, if_pos h]⟩
  have HG0 : Keep (re = 0 → G = getN (lst s) rv.toNat [] a1) := ⟨fun h => by rw [hG, if_neg (by simp [h])]⟩
  clear hI hb hrg hc' hG ha1
  go_enter Try.func10, Try.ntmps10
  refine wp_seq_k fun K1 hK1 => ?_
  refine wp_region_list (WL.out ?_)
  refine WL.val (by kernel_rfl) (.slice none 0 0) (by go_simp) ?_
  simp only [Act.put, List.setIfInBounds_toArray, List.set_cons_zero, List.set_cons_succ]
  refine WL.val (by kernel_rfl) (.nilIface) (by go_simp) ?_
  simp only [Act.put, List.setIfInBounds_toArray, List.set_cons_zero, List.set_cons_succ]
  refine WL.nil ?_
  refine hK1 _ _ ?_
  refine wp_seq_k fun K2 hK2 => ?_
  refine wp_region_list (WL.out ?_)
  refine WL.val (by kernel_rfl) (.pointer (some ⟨p, 0, none⟩)) (by go_simp) ?_
  simp only [Act.put, List.setIfInBounds_toArray, List.set_cons_zero, List.set_cons_succ]
  refine WL.callF (by kernel_rfl) 32 _ _ rfl Try.in32 #[ptr p, .int .u64 1024] (by simp [Act.eval]) ?_
  refine (HC.out).mono ?_
  rintro e w1 ⟨bad, er, rfl, h1, h2, h3⟩
  refine ⟨_, rfl, ?_⟩
  have H1 := Keep.mk h1
  have H2 := Keep.mk h2
  have H3 := Keep.mk h3
  clear h1 h2 h3
  simp only [Act.put, List.setIfInBounds_toArray, List.set_cons_zero, List.set_cons_succ]
  refine WL.val (by kernel_rfl) (.tuple #[.int .u64 rv, er]) (by go_simp) ?_
  simp only [Act.put, List.setIfInBounds_toArray, List.set_cons_zero, List.set_cons_succ]
  refine WL.val (by kernel_rfl) (.int .u64 rv) (by go_simp) ?_
  simp only [Act.put, List.setIfInBounds_toArray, List.set_cons_zero, List.set_cons_succ]
  refine WL.val (by kernel_rfl) (er) (by go_simp) ?_
  simp only [Act.put, List.setIfInBounds_toArray, List.set_cons_zero, List.set_cons_succ]
  refine WL.val (by kernel_rfl) (.int .u64 rv) (by go_simp) ?_
  simp only [Act.put, List.setIfInBounds_toArray, List.set_cons_zero, List.set_cons_succ]
  refine WL.val (by kernel_rfl) (er) (by go_simp) ?_
  simp only [Act.put, List.setIfInBounds_toArray, List.set_cons_zero, List.set_cons_succ]
  refine WL.nil ?_
  refine hK2 _ _ ?_
  refine wp_seq_k fun K3 hK3 => ?_
  refine wp_seq_k fun K4 hK4 => ?_
  by_cases hE : re = 0
  · rcases H3.out with ⟨e1, rfl, rfl⟩ | ⟨e1, _⟩
    rotate_left
    · exact absurd hE e1
    obtain ⟨n, hn⟩ : ∃ n : Nat, rv = (n : Int) := ⟨rv.toNat, by have := Hrg.out; omega⟩
    have Hn : Keep (n ≤ 1024) := ⟨by have := Hrg.out; omega⟩
    have HR : Keep (G = getN (lst s) n [] a1) := ⟨by rw [HG0.out hE, hn, Int.toNat_natCast]⟩
    subst hn
    refine wp_region_list (WL.out ?_)
    refine WL.val (by kernel_rfl) (.nilIface) (by go_simp) ?_
    simp only [Act.put, List.setIfInBounds_toArray, List.set_cons_zero, List.set_cons_succ]
    refine WL.val (by kernel_rfl) (.bool false) (by go_simp) ?_
    simp only [Act.put, List.setIfInBounds_toArray, List.set_cons_zero, List.set_cons_succ]
    refine WL.nil ?_
    refine hK4 _ _ ?_
    refine wp_cond_false rfl ?_
    refine wp_skip ?_
    refine hK3 _ _ ?_
    refine wp_seq_k fun K5 hK5 => ?_
    refine wp_region_list (WL.out ?_)
    refine WL.callF (by kernel_rfl) 33 _ _ rfl Try.in33 #[] (by simp) ?_
    refine (tab_any w1).mono ?_
    rintro e w2 ⟨m, rfl, hT2, hm2, hB2⟩
    refine ⟨_, rfl, ?_⟩
    have HT2 := Keep.mk hT2
    have HI2 : Keep (InAt w2 p s a1 none) := ⟨H1.out.blk.below hB2 H1.out.blk.lt, H1.out.le⟩
    have HG2 : Keep (Grown w w2 fun k => k = p) := ⟨H2.out.trans (Grown.below hB2)⟩
    clear hT2 hm2 hB2
    simp only [Act.put, List.setIfInBounds_toArray, List.set_cons_zero, List.set_cons_succ]
    refine WL.val (by kernel_rfl) (.map (some m)) (by go_simp) ?_
    simp only [Act.put, List.setIfInBounds_toArray, List.set_cons_zero, List.set_cons_succ]
    refine WL.nil ?_
    refine hK5 _ _ ?_
    refine wp_seq_k fun K6 hK6 => ?_
    refine wp_region_list (WL.out ?_)
    refine WL.bs (by kernel_rfl) 36 0 _ rfl #[] (by simp) _ _ (bsE w2) ?_
    have HO3 := Keep.mk (ownO_empty w2)
    have B3 : Keep (Below w2.heap.size w2 (w2.alloc (.cells #[] 59))) := ⟨below_new w2 _⟩
    generalize w2.alloc (.cells #[] 59) = w3 at *
    have HOn3 : Keep (∀ k, (Value.slice (some ⟨w2.heap.size, 0, none⟩) 0 0).ownBlock = some k → w.heap.size ≤ k) := ⟨fun k hk => by simp [Value.ownBlock] at hk; have := HG2.out.size; omega⟩
    have HI3 : Keep (InAt w3 p s a1 none) := ⟨HI2.out.blk.below B3.out HI2.out.blk.lt, HI2.out.le⟩
    have HT3 := Keep.mk (HT2.out.below B3.out)
    have HG3 : Keep (Grown w w3 fun k => k = p) := ⟨HG2.out.trans (Grown.below B3.out)⟩
    simp only [Act.put, List.setIfInBounds_toArray, List.set_cons_zero, List.set_cons_succ]
    refine WL.val (by kernel_rfl) (.slice (some ⟨w2.heap.size, 0, none⟩) 0 0) (by go_simp) ?_
    simp only [Act.put, List.setIfInBounds_toArray, List.set_cons_zero, List.set_cons_succ]
    refine WL.nil ?_
    refine hK6 _ _ ?_
    refine wp_seq_k fun K7 hK7 => ?_
    refine wp_seq_k fun K8 hK8 => ?_
    refine wp_region_list (WL.out ?_)
    refine WL.val (by kernel_rfl) (.int .u64 (n : Int)) (by go_simp) ?_
    simp only [Act.put, List.setIfInBounds_toArray, List.set_cons_zero, List.set_cons_succ]
    refine WL.val (by kernel_rfl) (.int .u64 0) (by go_simp) ?_
    simp only [Act.put, List.setIfInBounds_toArray, List.set_cons_zero, List.set_cons_succ]
    refine WL.nil ?_
    refine hK8 _ _ ?_
    refine wp_block ?_
    refine wp_loop (fun ac wr => ∃ (t : Nat) (u2 u3 u7 u8 u9 u22 u23 u24 u25 u26 u27 u28 u29 u30 u31 u32 u33 u34 u35 u36 u37 : Value), ac = { tmps := #[.pointer (some ⟨p, 0, none⟩), undef, u2, u3, .int .u64 (n : Int), .nilIface, .map (some m), u7, u8, u9, .tuple #[.int .u64 (n : Int), .nilIface], .pointer (some ⟨p, 0, none⟩), .tuple #[.int .u64 (n : Int), .nilIface], .int .u64 (n : Int), .nilIface, .nilIface, .bool false, undef, .map (some m), .slice (some ⟨w2.heap.size, 0, none⟩) 0 0, .int .u64 (n : Int), .int .u64 (t : Int), u22, u23, u24, u25, u26, u27, u28, u29, u30, u31, u32, u33, u34, u35, u36, u37, undef], defers := [] } ∧ t ≤ n ∧ ∃ l at_, getN (lst s) n [] a1 = getN (lst s) (n - t) l at_ ∧ InAt wr p s at_ none ∧ OwnO wr u7 l ∧ (∀ k, u7.ownBlock = some k → w.heap.size ≤ k) ∧ TabAt wr m ∧ (Grown w wr fun k => k = p) ∧ (∀ x ∈ l, OpOk x) ∧ l.length = t) (fun a _ => n - (intOf (a.tmps.getD 21 undef)).toNat) ⟨0, .slice none 0 0, .nilIface, .slice (some ⟨w2.heap.size, 0, none⟩) 0 0, undef, undef, undef, undef, undef, undef, undef, undef, undef, undef, undef, undef, undef, undef, undef, undef, undef, undef, rfl, by omega, [], a1, rfl, HI3.out, HO3.out, HOn3.out, HT3.out, HG3.out, by simp, rfl⟩ ?_
    rintro ac wr ⟨t, u2, u3, u7, u8, u9, u22, u23, u24, u25, u26, u27, u28, u29, u30, u31, u32, u33, u34, u35, u36, u37, rfl, ht, l, at_, hC, hI, hO, hOn, hT, hG, hOk, hLn⟩
    by_cases htl : t < n
    · have htl' : (t : Int) < (n : Int) := by omega
      obtain ⟨k1, hk1⟩ : ∃ k1, n - t = k1 + 1 := ⟨n - t - 1, by omega⟩
      rw [hk1, getN] at hC
      have hk2 : k1 = n - (t + 1) := by omega
      rw [hk2] at hC
      have hwr1 : IntKind.u64.wrap ((t : Int) + 1) = (t : Int) + 1 := by rw [IntKind.wrap_u64]; have := Hn.out; omega
      obtain ⟨oa, oc, rfl⟩ := hO.sl
      obtain ⟨G, hGG⟩ : ∃ G, Keep (G = getO (lst s) l at_) := ⟨_, ⟨rfl⟩⟩
      rw [← hGG.out] at hC
      have JC := Keep.mk hC
      have JI := Keep.mk hI
      have JO := Keep.mk hO
      have JOn := Keep.mk hOn
      have JT := Keep.mk hT
      have JG := Keep.mk hG
      have JOk := Keep.mk hOk
      have JLn := Keep.mk hLn
      clear hC hI hO hOn hT hG hOk hLn hk1 hk2
      refine wp_seq_k fun K9 hK9 => ?_
      refine wp_region_list (WL.out ?_)
      refine WL.val (by kernel_rfl) (.bool true) (by go_simp) ?_
      simp only [Act.put, List.setIfInBounds_toArray, List.set_cons_zero, List.set_cons_succ]
      refine WL.nil ?_
      refine hK9 _ _ ?_
      refine wp_seq_k fun K10 hK10 => ?_
      refine wp_cond_true rfl ?_
      refine wp_skip ?_
      refine hK10 _ _ ?_
      refine wp_seq_k fun K11 hK11 => ?_
      refine wp_block ?_
      refine wp_seq_k fun K12 hK12 => ?_
      refine wp_region_list (WL.out ?_)
      refine WL.val (by kernel_rfl) (.pointer (some ⟨p, 0, none⟩)) (by go_simp) ?_
      simp only [Act.put, List.setIfInBounds_toArray, List.set_cons_zero, List.set_cons_succ]
      refine WL.val (by kernel_rfl) (.map (some m)) (by go_simp) ?_
      simp only [Act.put, List.setIfInBounds_toArray, List.set_cons_zero, List.set_cons_succ]
      refine WL.val (by kernel_rfl) (.slice oa l.length oc) (by go_simp) ?_
      simp only [Act.put, List.setIfInBounds_toArray, List.set_cons_zero, List.set_cons_succ]
      refine WL.callF (by kernel_rfl) 34 _ _ rfl Try.in34 #[ptr p, .map (some m), .slice oa l.length oc] (by simp [Act.eval]) ?_
      refine (getOne_any p m s at_ _ l wr JI.out Hb.out JT.out (fun wx hx => (JO.out.grown hx (fun k hk e => JO.out.ne JI.out.blk (by decide) (e ▸ hk))).ops) (by have := JLn.out; have := Hn.out; omega)).mono ?_
      rintro e w1 ⟨y, er, rfl, hg1, hc1⟩
      refine ⟨_, rfl, ?_⟩
      rw [← hGG.out] at hc1
      have HG1 := Keep.mk hg1
      have HGw : Keep (Grown w w1 fun k => k = p) := ⟨JG.out.trans hg1⟩
      have HC1 := Keep.mk hc1
      have HO1 := Keep.mk (JO.out.grown hg1 (fun k hk e => JO.out.ne JI.out.blk (by decide) (e ▸ hk)))
      have HT1 := Keep.mk (JT.out.grown hg1 (fun e => JT.out.ne JI.out.blk e) (fun g cs hg e => blk_ne hg JI.out.blk (by decide) e))
      clear hg1 hc1
      simp only [Act.put, List.setIfInBounds_toArray, List.set_cons_zero, List.set_cons_succ]
      refine WL.val (by kernel_rfl) (.tuple #[.agg (opA y), er]) (by go_simp) ?_
      simp only [Act.put, List.setIfInBounds_toArray, List.set_cons_zero, List.set_cons_succ]
      refine WL.val (by kernel_rfl) (.agg (opA y)) (by go_simp) ?_
      simp only [Act.put, List.setIfInBounds_toArray, List.set_cons_zero, List.set_cons_succ]
      refine WL.val (by kernel_rfl) (er) (by go_simp) ?_
      simp only [Act.put, List.setIfInBounds_toArray, List.set_cons_zero, List.set_cons_succ]
      refine WL.new (by kernel_rfl) 59 rfl _ Try.new59 ?_
      simp only [Act.put, List.setIfInBounds_toArray, List.set_cons_zero, List.set_cons_succ]
      refine WL.storeR (by kernel_rfl) 59 (.tmp 8) (.tmp 28) rfl w1.heap.size (opA y) rfl rfl 59 (opA zeroOp) (Blk.new w1 59 _) (Try.size59B y) (opA_sizes _ _) (opA_one y) ?_
      have HY2 := Keep.mk ((Blk.new w1 59 (opA zeroOp)).setRow (opA y))
      have B2 : Keep (Below w1.heap.size w1 ((w1.alloc (.cells (opA zeroOp) 59)).setRow w1.heap.size (opA y))) := ⟨below_setRow (below_new w1 _) (Nat.le_refl _) _⟩
      generalize (w1.alloc (.cells (opA zeroOp) 59)).setRow w1.heap.size (opA y) = w2 at *
      have HG2 : Keep (Grown w w2 fun k => k = p) := ⟨HGw.out.trans (Grown.below B2.out)⟩
      have HO2 := Keep.mk (HO1.out.below B2.out)
      have HT2 := Keep.mk (HT1.out.below B2.out)
      simp only [Act.put]
      refine WL.val (by kernel_rfl) (er) (by go_simp) ?_
      simp only [Act.put, List.setIfInBounds_toArray, List.set_cons_zero, List.set_cons_succ]
      refine WL.nil ?_
      refine hK12 _ _ ?_
      refine wp_seq_k fun K13 hK13 => ?_
      refine wp_seq_k fun K14 hK14 => ?_
      by_cases hE : G.1 = 0
      · rcases HC1.out with ⟨e1, rfl, rfl, e3, e4⟩ | ⟨e1, _⟩
        rotate_left
        · exact absurd hE e1
        have HI2 : Keep (InAt w2 p s G.2.1 none) := ⟨e3.blk.below B2.out e3.blk.lt, e3.le⟩
        have K3 := Keep.mk e4
        clear e3 e4
        rw [if_pos hE] at JC
        refine wp_region_list (WL.out ?_)
        refine WL.val (by kernel_rfl) (.nilIface) (by go_simp) ?_
        simp only [Act.put, List.setIfInBounds_toArray, List.set_cons_zero, List.set_cons_succ]
        refine WL.val (by kernel_rfl) (.bool false) (by go_simp) ?_
        simp only [Act.put, List.setIfInBounds_toArray, List.set_cons_zero, List.set_cons_succ]
        refine WL.nil ?_
        refine hK14 _ _ ?_
        refine wp_cond_false rfl ?_
        refine wp_skip ?_
        refine hK13 _ _ ?_
        refine wp_region_list (WL.out ?_)
        refine WL.val (by kernel_rfl) (.slice oa l.length oc) (by go_simp) ?_
        simp only [Act.put, List.setIfInBounds_toArray, List.set_cons_zero, List.set_cons_succ]
        refine WL.row (by kernel_rfl) 59 (.tmp 8) rfl w1.heap.size rfl 59 (opA G.2.2) _ HY2.out Try.underlying59 rfl (Try.size59B _) ?_
        simp only [Act.put, List.setIfInBounds_toArray, List.set_cons_zero, List.set_cons_succ]
        refine WL.bs (by kernel_rfl) 36 1 _ rfl #[(0, .agg (opA G.2.2))] (by simp [Act.eval]) _ _ (bsO G.2.2 w2) ?_
        have HB3 := Keep.mk (Blk.new w2 59 (opA G.2.2))
        have B3 : Keep (Below w2.heap.size w2 (w2.alloc (.cells (opA G.2.2) 59))) := ⟨below_new w2 _⟩
        generalize w2.alloc (.cells (opA G.2.2) 59) = w3 at *
        simp only [Act.put, List.setIfInBounds_toArray, List.set_cons_zero, List.set_cons_succ]
        refine WL.appO (by kernel_rfl) (.tmp 33) (.tmp 35) rfl (.slice oa l.length oc) l w2.heap.size G.2.2 rfl rfl (HO2.out.below B3.out) HB3.out (by have := JLn.out; have := Hn.out; omega) ?_
        intro v4 w4 h1 h2 h3
        have HO4 := Keep.mk h1
        have Hg4 : Keep (Grown w w4 fun k => k = p) := ⟨(HG2.out.trans (Grown.below B3.out)).next h2 (fun k hk e => absurd (JOn.out k e) (by omega))⟩
        have HT4 := Keep.mk ((HT2.out.below B3.out).grown h2 (fun e => by
          rcases (HO2.out.below B3.out).form with ⟨e1, _⟩ | ⟨g, cap, cur, e1, hgb, _⟩
          · rw [e1] at e; simp [Value.ownBlock] at e
          · rw [e1] at e; simp [Value.ownBlock] at e; subst e; exact (HT2.out.below B3.out).ne hgb rfl) (fun g cs hg e => (HO2.out.below B3.out).ne hg (by decide) e))
        have HI4 : Keep (InAt w4 p s G.2.1 none) := ⟨h2.blk (HI2.out.blk.below B3.out HI2.out.blk.lt) (fun e => (HO2.out.below B3.out).ne (HI2.out.blk.below B3.out HI2.out.blk.lt) (by decide) e), HI2.out.le⟩
        have HOn4 : Keep (∀ k, v4.ownBlock = some k → w.heap.size ≤ k) := ⟨fun k hk => by
          rcases h3 with e | ⟨j, e, hj⟩
          · rw [e] at hk; exact JOn.out k hk
          · rw [e] at hk; injection hk with hk; have := HG2.out.size; have := B3.out.size; omega⟩
        clear h1 h2 h3
        simp only [Act.put, List.setIfInBounds_toArray, List.set_cons_zero, List.set_cons_succ]
        refine WL.val (by kernel_rfl) (v4) (by go_simp) ?_
        simp only [Act.put, List.setIfInBounds_toArray, List.set_cons_zero, List.set_cons_succ]
        refine WL.nil ?_
        refine hK11 _ _ ?_
        refine wp_region_list (WL.out ?_)
        refine WL.val (by kernel_rfl) (.int .u64 ((t : Int) + 1)) (by go_simp) ?_
        simp only [Act.put, List.setIfInBounds_toArray, List.set_cons_zero, List.set_cons_succ]
        refine WL.val (by kernel_rfl) (.int .u64 ((t : Int) + 1)) (by go_simp) ?_
        simp only [Act.put, List.setIfInBounds_toArray, List.set_cons_zero, List.set_cons_succ]
        refine WL.nil ?_
        refine ⟨⟨t + 1, u2, u3, v4, .pointer (some ⟨w1.heap.size, 0, none⟩), .nilIface, .bool true, .tuple #[.agg (opA G.2.2), .nilIface], .pointer (some ⟨p, 0, none⟩), .map (some m), .slice oa l.length oc, .tuple #[.agg (opA G.2.2), .nilIface], .agg (opA G.2.2), .nilIface, .nilIface, .bool false, u32, .slice oa l.length oc, .agg (opA G.2.2), .slice (some ⟨w2.heap.size, 0, none⟩) 1 1, v4, .int .u64 ((t : Int) + 1), rfl, by omega, l ++ [G.2.2], G.2.1, JC.out, HI4.out, HO4.out, HOn4.out, HT4.out, Hg4.out, ?_, by rw [List.length_append]; simp [JLn.out]⟩, ?_⟩
        · intro z hz; rcases List.mem_append.1 hz with hz | hz; exact JOk.out z hz; simp at hz; subst hz; exact K3.out
        · simp only [intOf]; show n - ((t : Int) + 1).toNat < n - ((t : Int)).toNat; omega
      · rcases HC1.out with ⟨e1, _⟩ | ⟨_, q, hq, rfl, hbad⟩
        · exact absurd e1 hE
        have Hbad := Keep.mk (hbad.below B2.out hbad.lt)
        have Hq := Keep.mk (Nat.le_trans JG.out.size hq)
        clear hbad hq
        unfold err
        rw [if_neg hE] at JC
        refine wp_region_list (WL.out ?_)
        refine WL.val (by kernel_rfl) (.iface 66 (ptr q)) (by go_simp) ?_
        simp only [Act.put, List.setIfInBounds_toArray, List.set_cons_zero, List.set_cons_succ]
        refine WL.val (by kernel_rfl) (.bool true) (by go_simp) ?_
        simp only [Act.put, List.setIfInBounds_toArray, List.set_cons_zero, List.set_cons_succ]
        refine WL.nil ?_
        refine hK14 _ _ ?_
        refine wp_cond_true rfl ?_
        refine wp_seq_k fun K15 hK15 => ?_
        refine wp_region_list (WL.out ?_)
        refine WL.val (by kernel_rfl) (.iface 66 (ptr q)) (by go_simp) ?_
        simp only [Act.put, List.setIfInBounds_toArray, List.set_cons_zero, List.set_cons_succ]
        refine WL.val (by kernel_rfl) (.slice none 0 0) (by go_simp) ?_
        simp only [Act.put, List.setIfInBounds_toArray, List.set_cons_zero, List.set_cons_succ]
        refine WL.val (by kernel_rfl) (.iface 66 (ptr q)) (by go_simp) ?_
        simp only [Act.put, List.setIfInBounds_toArray, List.set_cons_zero, List.set_cons_succ]
        refine WL.nil ?_
        refine hK15 _ _ ?_
        refine wp_ret ?_
        go_ret2
        refine ⟨.slice none 0 0, err q, rfl, HG2.out, ?_⟩
        rw [HR.out, JC.out]
        exact .inr ⟨hE, rfl, q, Hq.out, rfl, Hbad.out⟩
    · have hte : Keep (t = n) := ⟨by omega⟩
      have htl' : ¬ (t : Int) < (n : Int) := by omega
      refine wp_seq_k fun K16 hK16 => ?_
      refine wp_region_list (WL.out ?_)
      refine WL.val (by kernel_rfl) (.bool false) (by go_simp) ?_
      simp only [Act.put, List.setIfInBounds_toArray, List.set_cons_zero, List.set_cons_succ]
      refine WL.nil ?_
      refine hK16 _ _ ?_
      refine wp_seq_k fun K17 hK17 => ?_
      refine wp_cond_false rfl ?_
      refine wp_exit ?_
      refine hK7 _ _ ?_
      refine wp_seq_k fun K18 hK18 => ?_
      refine wp_region_list (WL.out ?_)
      refine WL.val (by kernel_rfl) (u7) (by go_simp) ?_
      simp only [Act.put, List.setIfInBounds_toArray, List.set_cons_zero, List.set_cons_succ]
      refine WL.val (by kernel_rfl) (u7) (by go_simp) ?_
      simp only [Act.put, List.setIfInBounds_toArray, List.set_cons_zero, List.set_cons_succ]
      refine WL.val (by kernel_rfl) (.nilIface) (by go_simp) ?_
      simp only [Act.put, List.setIfInBounds_toArray, List.set_cons_zero, List.set_cons_succ]
      refine WL.nil ?_
      refine hK18 _ _ ?_
      refine wp_ret ?_
      go_ret2
      rw [hte.out, Nat.sub_self, getN] at hC
      refine ⟨u7, .nilIface, rfl, hG, ?_⟩
      rw [HR.out, hC]
      exact .inl ⟨rfl, rfl, hO, hOn, hI, hOk, by rw [hLn]; have := Hn.out; omega⟩
  · rcases H3.out with ⟨e1, _, _⟩ | ⟨_, q, hq, rfl, rfl, hbad⟩
    · exact absurd e1 hE
    have Hbad := Keep.mk hbad
    clear hbad
    unfold err
    refine wp_region_list (WL.out ?_)
    refine WL.val (by kernel_rfl) (.iface 66 (ptr q)) (by go_simp) ?_
    simp only [Act.put, List.setIfInBounds_toArray, List.set_cons_zero, List.set_cons_succ]
    refine WL.val (by kernel_rfl) (.bool true) (by go_simp) ?_
    simp only [Act.put, List.setIfInBounds_toArray, List.set_cons_zero, List.set_cons_succ]
    refine WL.nil ?_
    refine hK4 _ _ ?_
    refine wp_cond_true rfl ?_
    refine wp_seq_k fun K19 hK19 => ?_
    refine wp_region_list (WL.out ?_)
    refine WL.val (by kernel_rfl) (.iface 66 (ptr q)) (by go_simp) ?_
    simp only [Act.put, List.setIfInBounds_toArray, List.set_cons_zero, List.set_cons_succ]
    refine WL.val (by kernel_rfl) (.slice none 0 0) (by go_simp) ?_
    simp only [Act.put, List.setIfInBounds_toArray, List.set_cons_zero, List.set_cons_succ]
    refine WL.val (by kernel_rfl) (.iface 66 (ptr q)) (by go_simp) ?_
    simp only [Act.put, List.setIfInBounds_toArray, List.set_cons_zero, List.set_cons_succ]
    refine WL.nil ?_
    refine hK19 _ _ ?_
    refine wp_ret ?_
    go_ret2
    exact ⟨.slice none 0 0, err q, rfl, H2.out, by rw [HG1.out hE]; exact .inr ⟨hE, rfl, q, hq, rfl, Hbad.out⟩⟩
end Go.Proofs.Ytkjjlfpghhefcab
namespace Go.Proofs.Ytkjjlfpghhefcab
open Go.RowKit

set_option maxRecDepth 8000 in
set_option maxHeartbeats 1000000 in
theorem xnum_bad (x : Nat) (vB : Value) (a : Nat) (why b : Int) (v : Value) (w : World) (h : RfAt w x vB a why b) (hw : why ≠ 0) :
    Calls Try.prog 35 #[ptr x, v] w (RfStuck why b (.int .u64 0) w) := by
  have HS := Keep.mk (RS.start h)
  have HB := Keep.mk (below_new w (.cells #[.int .i64 0, .int .i64 0] 27))
  have hy1 : (why == 0) = false := by simpa using hw
  clear h
  go_enter Try.func35, Try.ntmps35
  go_wp2_with (first | (refine wpList_new rfl 27 rfl _ Try.new27 ?_; refine Hid.out ?_))
  refine hid_in ?_
  generalize w.alloc (.cells #[.int .i64 0, .int .i64 0] 27) = w1 at *
  have c2 := RfAt.c2 HS.out.rf
  have c3 := RfAt.c3 HS.out.rf
  have d0 := HS.out.d0
  have d1 := HS.out.d1
  have e0 := HS.out.cell.frozen 0
  have e1 := HS.out.cell.frozen 1
  go_wp2_with fail
  go_region
  go_wp2
  exact bodyPost_ret (results_tmp_cell_row Try.results35 _ _ w.heap.size 27 _ (0, 0) _ _ rfl rfl (HS.out.fin (.int .i64 why) (.int .i64 b)).1.drew Try.underlying27 rfl Try.size27) rfl ⟨rfl, (below_two HB.out (Nat.le_refl _) _ _).drew⟩

theorem pow_bnd (t : Nat) (c y : Int) (ht : t ≤ 9) (h9 : t = 9 → c ≤ 1) (c0 : 0 ≤ c) (c1 : c < 256) (y0 : 0 ≤ y) (y1 : y < 2 ^ (7 * t)) :
    0 ≤ c % 128 * 2 ^ (7 * t) ∧ c % 128 * 2 ^ (7 * t) < 18446744073709551616 ∧ y + c % 128 * 2 ^ (7 * t) < 18446744073709551616 ∧ (t ≤ 8 → y + c % 128 * 2 ^ (7 * t) < 2 ^ (7 * (t + 1))) := by
  rcases (by omega : t = 0 ∨ t = 1 ∨ t = 2 ∨ t = 3 ∨ t = 4 ∨ t = 5 ∨ t = 6 ∨ t = 7 ∨ t = 8 ∨ t = 9) with rfl | rfl | rfl | rfl | rfl | rfl | rfl | rfl | rfl | rfl <;>
    (simp only [Nat.reduceMul, Nat.reduceAdd, Int.reducePow] at y1 ⊢; omega)
theorem fstM_err {D : List Int} {e : Int} (h : fstG D 0 0 = (0, 0, e)) (he : e ≠ 0) (most : Int) : fstM D most = (0, 0, e) := by
  unfold fstM; rw [h, if_neg (fun h => he h.1)]
theorem fstM_over {D : List Int} {s n most : Int} (h : fstG D 0 0 = (s, n, 0)) (hm : most < s) : fstM D most = (0, 0, 22) := by
  unfold fstM; rw [h, if_pos ⟨rfl, hm⟩]
theorem fstM_ok {D : List Int} {s n most : Int} (h : fstG D 0 0 = (s, n, 0)) (hm : ¬ most < s) : fstM D most = (s, n, 0) := by
  unfold fstM; rw [h, if_neg (fun h => hm h.2)]
theorem tri {X W X' W' : Int} {N N' : Nat} (h : (X', (N' : Int), W') = (X, (N : Int), W)) : X = X' ∧ N = N' ∧ W = W' := by
  injection h with h1 h2
  injection h2 with h2 h3
  exact ⟨h1.symm, by omega, h3.symm⟩

set_option maxRecDepth 8000 in
set_option maxHeartbeats 4000000 in
theorem xnum_good (x : Nat) (vB : Value) (l : List Int) (a most : Nat) (w : World) (h : RfAt w x vB a 0 0) (hR : ∀ wx, (Grown w wx fun k => k = x) → RowAt wx vB l) (ha : a ≤ l.length) (hb : l.length ≤ 140737488355328) (hby : Byts l) (D : List Int) (hD : D = l.drop a) (W X : Int) (N : Nat) (hM : fstM D most = (X, (N : Int), W)) :
    Calls Try.prog 35 #[ptr x, .int .u64 (most : Int)] w (RfPost x vB W (a + N) (.int .u64 X) w) := by
  have HM := Keep.mk hM
  have HS := Keep.mk (RS.start h)
  have HR := Keep.mk hR
  have hlen : D.length = l.length - a := by rw [hD, List.length_drop]
  have HBy : Keep (∀ t, t < D.length → 0 ≤ D.getD t 0 ∧ D.getD t 0 < 256) := ⟨fun t ht => by
    have h1 : D.getD t 0 ∈ l := by
      rw [List.getD_eq_getElem?_getD, List.getElem?_eq_getElem ht, Option.getD_some]
      exact List.mem_of_mem_drop (by rw [← hD]; exact List.getElem_mem ht)
    exact hby _ h1⟩
  obtain ⟨va, vc, hvB⟩ := row_form (hR w (Grown.refl _ _))
  subst hvB
  have HDg : Keep (∀ t, t < D.length → D.drop t = D.getD t 0 :: D.drop (t + 1)) := ⟨fun t ht => by
    rw [List.drop_eq_getElem_cons ht, List.getD_eq_getElem?_getD, List.getElem?_eq_getElem ht, Option.getD_some]⟩
  have HRc : Keep (∀ wx, (Grown w wx fun k => k = x) → ∀ t, t < D.length → ∃ gb go, va = some ⟨gb, go, none⟩ ∧ wx.cell? ⟨gb, go + (a + t), none⟩ = some (.int .u8 (D.getD t 0))) := ⟨fun wx hg t ht => by
    rcases HR.out wx hg with ⟨_, e⟩ | ⟨_, _, _, e⟩ | ⟨g, o, _, e, _, h3⟩
    · have : l.length = 0 := by rw [e]; rfl
      omega
    · have : l.length = 0 := by rw [e]; rfl
      omega
    · injection e with e1 e2
      refine ⟨g, o, e1, ?_⟩
      rw [h3 (a + t) (by omega), hD]
      simp [List.getD_eq_getElem?_getD]⟩
  have Hb := Keep.mk hb
  have Ha := Keep.mk ha
  have hbi : (l.length : Int) ≤ 140737488355328 := by omega
  have hai : (a : Int) ≤ (l.length : Int) := by omega
  have Hlen := Keep.mk hlen
  clear h hR hlen ha hb hD hby HR hM
  go_enter Try.func35, Try.ntmps35
  go_wp2_with (first | (refine wpList_new rfl 27 rfl _ Try.new27 ?_; refine Hid.out ?_))
  refine hid_in ?_
  generalize w.alloc (.cells #[.int .i64 0, .int .i64 0] 27) = w1 at *
  have c2 := RfAt.c2 HS.out.rf
  go_wp2_with fail
  clear c2
  go_loopw [6, 7] (fun u i wr => ∃ (t : Nat) (y : Int), t ≤ 9 ∧ t ≤ D.length ∧ u = .int .u64 y ∧ i = .int .i64 (t : Int) ∧ Keep (fstG (D.drop t) t y = fstG D 0 0) ∧ Keep (0 ≤ y ∧ y < 2 ^ (7 * t)) ∧ RS w x (.slice va l.length vc) a 0 0 wr) (fun _ i _ => 10 - (intOf i).toNat)
  case atStart => exact ⟨0, 0, by omega, by omega, rfl, rfl, ⟨by simp⟩, ⟨by simp⟩, HS.out⟩
  case round =>
    clear HS
    obtain ⟨t, y, ht, htD, rfl, rfl, hF, hy, hS⟩ := hrel
    have HS := Keep.mk hS
    have hti : (t : Int) < 10 := by omega
    clear hS
    go_wp2_with fail
    refine (xleft_any x _ l.length vc a 0 0 wr HS.out.rf Ha.out Hb.out).mono ?_
    rintro e w2 ⟨rfl, qd, hw2⟩
    have HS2 := Keep.mk (HS.out.later (w2 := w2) (by rw [hw2]; exact below_drewN _ _))
    clear hw2 HS
    by_cases hlt : t < D.length
    · have hlt' : ¬ ((l.length : Int) - (a : Int) ≤ (t : Int)) := by have := Hlen.out; omega
      obtain ⟨gb, go, rfl, hc⟩ := HRc.out w2 HS2.out.gr t hlt
      have hcb := HBy.out t hlt
      have hDg := HDg.out t hlt
      obtain ⟨c, hcc⟩ : ∃ c, Keep (c = D.getD t 0) := ⟨_, ⟨rfl⟩⟩
      rw [← hcc.out] at hc hcb hDg
      obtain ⟨hc0, hc1⟩ := hcb
      rw [hDg] at hF
      have g0 := RfAt.c0 HS2.out.rf
      have g1 := RfAt.c1 HS2.out.rf
      clear hDg
      by_cases h9 : t = 9
      · have hb9 : ((t : Int) == 9) = true := by rw [h9]; rfl
        have hp0 : (0 : Int) < (t : Int) := by omega
        by_cases h1 : 1 < c
        · have h1' : 1 < c := h1
          have hG : Keep (fstG D 0 0 = (0, 0, 22)) := ⟨by rw [← hF.out, fstG, if_pos ⟨h9, h1⟩]⟩
          obtain ⟨rfl, rfl, rfl⟩ := tri ((show (0, ((0 : Nat) : Int), (22 : Int)) = fstM D most from (fstM_err hG.out (by decide) _).symm).trans HM.out)
          clear HM
          try clear h9
          try clear hp
          go_wp2_with fail
          go_quiet (fail)
          obtain ⟨w3, hw3⟩ : ∃ w3, Keep (w3 = w2.drewN nq) := ⟨_, ⟨rfl⟩⟩
          rw [← hw3.out]
          have HS3 := Keep.mk (HS2.out.later (w2 := w3) (by rw [hw3.out]; exact below_drewN _ _))
          have k1 := RfAt.c1 HS3.out.rf
          clear hw3 g0 g1 hc HS2
          go_wp2_with fail
          refine (xwrong_any x _ a 22 w3 HS3.out.rf).mono ?_
          rintro e w4 ⟨rfl, hr, hg⟩
          have HS4 := Keep.mk (HS3.out.turned hr hg)
          clear hr hg k1
          have d0 := HS4.out.d0
          have d1 := HS4.out.d1
          have e0 := HS4.out.cell.frozen 0
          have e1 := HS4.out.cell.frozen 1
          go_wp2
          have hf := HS4.out.fin (.int .i64 22) (.int .i64 (a : Int))
          exact bodyPost_ret (results_tmp_cell_row Try.results35 _ _ w.heap.size 27 _ (0, 0) _ _ rfl rfl hf.1 Try.underlying27 rfl Try.size27) rfl ⟨_, .inr ⟨by decide, rfl⟩, rfl, hf.2.1, hf.2.2⟩
        · have H9 : t = 9 → c ≤ 1 := fun _ => by omega
          have h128 : ¬ (128 : Int) ≤ c := by omega
          have hpb := pow_bnd t c y ht H9 hc0 hc1 hy.out.1 hy.out.2
          obtain ⟨sv, hsv⟩ : ∃ sv, Keep (sv = y + c % 128 * 2 ^ (7 * t)) := ⟨_, ⟨rfl⟩⟩
          have hwr : IntKind.u64.wrap (y + IntKind.u64.wrap (c % 128 * 2 ^ (7 * t))) = sv := by
            rw [IntKind.wrap_u64, IntKind.wrap_u64, hsv.out]
            have := hy.out.1
            omega
          have Hpb := Keep.mk hpb
          clear hpb H9
          by_cases h0 : c = 0
          · have h0' : (c == 0) = true := by simp [h0]
            have hG : Keep (fstG D 0 0 = (0, 0, 21)) := ⟨by rw [← hF.out, fstG, if_neg (by omega), if_pos ⟨h0, by omega⟩]⟩
            clear h0
            obtain ⟨rfl, rfl, rfl⟩ := tri ((show (0, ((0 : Nat) : Int), (21 : Int)) = fstM D most from (fstM_err hG.out (by decide) _).symm).trans HM.out)
            clear HM
            try clear h9
            try clear hp
            go_wp2_with fail
            go_quiet (fail)
            obtain ⟨w3, hw3⟩ : ∃ w3, Keep (w3 = w2.drewN nq) := ⟨_, ⟨rfl⟩⟩
            rw [← hw3.out]
            have HS3 := Keep.mk (HS2.out.later (w2 := w3) (by rw [hw3.out]; exact below_drewN _ _))
            have k1 := RfAt.c1 HS3.out.rf
            clear hw3 g0 g1 hc HS2
            go_wp2_with fail
            refine (xwrong_any x _ a 21 w3 HS3.out.rf).mono ?_
            rintro e w4 ⟨rfl, hr, hg⟩
            have HS4 := Keep.mk (HS3.out.turned hr hg)
            clear hr hg k1
            have d0 := HS4.out.d0
            have d1 := HS4.out.d1
            have e0 := HS4.out.cell.frozen 0
            have e1 := HS4.out.cell.frozen 1
            go_wp2
            have hf := HS4.out.fin (.int .i64 21) (.int .i64 (a : Int))
            exact bodyPost_ret (results_tmp_cell_row Try.results35 _ _ w.heap.size 27 _ (0, 0) _ _ rfl rfl hf.1 Try.underlying27 rfl Try.size27) rfl ⟨_, .inr ⟨by decide, rfl⟩, rfl, hf.2.1, hf.2.2⟩
          · have h0' : (c == 0) = false := by simpa using h0
            have hG : Keep (fstG D 0 0 = (sv, ((t + 1 : Nat) : Int), 0)) := ⟨by rw [← hF.out, fstG, if_neg (by omega), if_neg (by omega), if_pos (by omega), hsv.out]; rfl⟩
            by_cases hmost : (most : Int) < sv
            · have hmost' : (most : Int) < sv := hmost
              obtain ⟨rfl, rfl, rfl⟩ := tri ((show (0, ((0 : Nat) : Int), (22 : Int)) = fstM D most from (fstM_over hG.out hmost).symm).trans HM.out)
              clear HM
              try clear h9
              try clear hp
              go_wp2_with fail
              go_quiet (fail)
              obtain ⟨w3, hw3⟩ : ∃ w3, Keep (w3 = w2.drewN nq) := ⟨_, ⟨rfl⟩⟩
              rw [← hw3.out]
              have HS3 := Keep.mk (HS2.out.later (w2 := w3) (by rw [hw3.out]; exact below_drewN _ _))
              have k1 := RfAt.c1 HS3.out.rf
              clear hw3 g0 g1 hc HS2
              go_wp2_with fail
              refine (xwrong_any x _ a 22 w3 HS3.out.rf).mono ?_
              rintro e w4 ⟨rfl, hr, hg⟩
              have HS4 := Keep.mk (HS3.out.turned hr hg)
              clear hr hg k1
              have d0 := HS4.out.d0
              have d1 := HS4.out.d1
              have e0 := HS4.out.cell.frozen 0
              have e1 := HS4.out.cell.frozen 1
              go_wp2
              have hf := HS4.out.fin (.int .i64 22) (.int .i64 (a : Int))
              exact bodyPost_ret (results_tmp_cell_row Try.results35 _ _ w.heap.size 27 _ (0, 0) _ _ rfl rfl hf.1 Try.underlying27 rfl Try.size27) rfl ⟨_, .inr ⟨by decide, rfl⟩, rfl, hf.2.1, hf.2.2⟩
            · have hmost' : ¬ ((most : Int) < sv) := hmost
              obtain ⟨rfl, rfl, rfl⟩ := tri ((show (sv, ((t + 1 : Nat) : Int), (0 : Int)) = fstM D most from (fstM_ok hG.out hmost).symm).trans HM.out)
              clear HM
              try clear h9
              try clear hp
              go_wp2_with fail
              go_quiet (fail)
              obtain ⟨w3, hw3⟩ : ∃ w3, Keep (w3 = w2.drewN nq) := ⟨_, ⟨rfl⟩⟩
              rw [← hw3.out]
              have HS3 := Keep.mk (HS2.out.later (w2 := w3) (by rw [hw3.out]; exact below_drewN _ _))
              have k1 := RfAt.c1 HS3.out.rf
              clear hw3 g0 g1 hc HS2
              have hne : x ≠ w.heap.size := by have := HS3.out.lt; omega
              have hne' : w.heap.size ≠ x := fun e => hne e.symm
              have f1 := Blk.frozen HS3.out.rf 1
              have d0 := HS3.out.d0
              have d1 := HS3.out.d1
              have e0 := HS3.out.cell.frozen 0
              have e1 := HS3.out.cell.frozen 1
              go_wp2
              have hf := (HS3.out.step (a + (t + 1))).fin (.int .i64 0) (.int .i64 0)
              exact bodyPost_ret (results_tmp_cell_row Try.results35 _ _ w.heap.size 27 _ (0, 0) _ _ rfl rfl hf.1 Try.underlying27 rfl Try.size27) rfl ⟨_, .inl ⟨rfl, rfl⟩, rfl, hf.2.1, hf.2.2⟩
      · have hb9 : ((t : Int) == 9) = false := by simp; omega
        have H9 : t = 9 → c ≤ 1 := fun h => absurd h h9
        have hpb := pow_bnd t c y ht H9 hc0 hc1 hy.out.1 hy.out.2
        obtain ⟨sv, hsv⟩ : ∃ sv, Keep (sv = y + c % 128 * 2 ^ (7 * t)) := ⟨_, ⟨rfl⟩⟩
        have hwr : IntKind.u64.wrap (y + IntKind.u64.wrap (c % 128 * 2 ^ (7 * t))) = sv := by
          rw [IntKind.wrap_u64, IntKind.wrap_u64, hsv.out]
          have := hy.out.1
          omega
        have Hpb := Keep.mk hpb
        clear hpb H9
        by_cases h128 : 128 ≤ c
        · have h128' : (128 : Int) ≤ c := h128
          have K9 := Keep.mk h9
          try clear h9
          try clear hp
          go_wp2_with fail
          go_quiet (fail)
          obtain ⟨w3, hw3⟩ : ∃ w3, Keep (w3 = w2.drewN nq) := ⟨_, ⟨rfl⟩⟩
          rw [← hw3.out]
          have HS3 := Keep.mk (HS2.out.later (w2 := w3) (by rw [hw3.out]; exact below_drewN _ _))
          have k1 := RfAt.c1 HS3.out.rf
          clear hw3 g0 g1 hc HS2
          go_wp2_with fail
          go_roundw
          case rel => exact ⟨t + 1, sv, by have := K9.out; omega, by omega, rfl, by go_num, ⟨by rw [← hF.out, fstG, if_neg (by have := K9.out; omega), if_neg (by omega), if_neg (by omega), hsv.out]⟩, ⟨by rw [hsv.out]; have := Hpb.out.1; have := hy.out.1; omega, by rw [hsv.out]; exact Hpb.out.2.2.2 (by have := K9.out; omega)⟩, HS3.out⟩
          case measure => simp only [intOf]; omega
        · have h128' : ¬ (128 : Int) ≤ c := h128
          by_cases hp : t = 0
          · have hp0 : ¬ (0 : Int) < (t : Int) := by omega
            have hG : Keep (fstG D 0 0 = (sv, ((t + 1 : Nat) : Int), 0)) := ⟨by rw [← hF.out, fstG, if_neg (by omega), if_neg (by omega), if_pos (by omega), hsv.out]; rfl⟩
            by_cases hmost : (most : Int) < sv
            · have hmost' : (most : Int) < sv := hmost
              obtain ⟨rfl, rfl, rfl⟩ := tri ((show (0, ((0 : Nat) : Int), (22 : Int)) = fstM D most from (fstM_over hG.out hmost).symm).trans HM.out)
              clear HM
              try clear h9
              try clear hp
              go_wp2_with fail
              go_quiet (fail)
              obtain ⟨w3, hw3⟩ : ∃ w3, Keep (w3 = w2.drewN nq) := ⟨_, ⟨rfl⟩⟩
              rw [← hw3.out]
              have HS3 := Keep.mk (HS2.out.later (w2 := w3) (by rw [hw3.out]; exact below_drewN _ _))
              have k1 := RfAt.c1 HS3.out.rf
              clear hw3 g0 g1 hc HS2
              go_wp2_with fail
              refine (xwrong_any x _ a 22 w3 HS3.out.rf).mono ?_
              rintro e w4 ⟨rfl, hr, hg⟩
              have HS4 := Keep.mk (HS3.out.turned hr hg)
              clear hr hg k1
              have d0 := HS4.out.d0
              have d1 := HS4.out.d1
              have e0 := HS4.out.cell.frozen 0
              have e1 := HS4.out.cell.frozen 1
              go_wp2
              have hf := HS4.out.fin (.int .i64 22) (.int .i64 (a : Int))
              exact bodyPost_ret (results_tmp_cell_row Try.results35 _ _ w.heap.size 27 _ (0, 0) _ _ rfl rfl hf.1 Try.underlying27 rfl Try.size27) rfl ⟨_, .inr ⟨by decide, rfl⟩, rfl, hf.2.1, hf.2.2⟩
            · have hmost' : ¬ ((most : Int) < sv) := hmost
              obtain ⟨rfl, rfl, rfl⟩ := tri ((show (sv, ((t + 1 : Nat) : Int), (0 : Int)) = fstM D most from (fstM_ok hG.out hmost).symm).trans HM.out)
              clear HM
              try clear h9
              try clear hp
              go_wp2_with fail
              go_quiet (fail)
              obtain ⟨w3, hw3⟩ : ∃ w3, Keep (w3 = w2.drewN nq) := ⟨_, ⟨rfl⟩⟩
              rw [← hw3.out]
              have HS3 := Keep.mk (HS2.out.later (w2 := w3) (by rw [hw3.out]; exact below_drewN _ _))
              have k1 := RfAt.c1 HS3.out.rf
              clear hw3 g0 g1 hc HS2
              have hne : x ≠ w.heap.size := by have := HS3.out.lt; omega
              have hne' : w.heap.size ≠ x := fun e => hne e.symm
              have f1 := Blk.frozen HS3.out.rf 1
              have d0 := HS3.out.d0
              have d1 := HS3.out.d1
              have e0 := HS3.out.cell.frozen 0
              have e1 := HS3.out.cell.frozen 1
              go_wp2
              have hf := (HS3.out.step (a + (t + 1))).fin (.int .i64 0) (.int .i64 0)
              exact bodyPost_ret (results_tmp_cell_row Try.results35 _ _ w.heap.size 27 _ (0, 0) _ _ rfl rfl hf.1 Try.underlying27 rfl Try.size27) rfl ⟨_, .inl ⟨rfl, rfl⟩, rfl, hf.2.1, hf.2.2⟩
          · have hp0 : (0 : Int) < (t : Int) := by omega
            by_cases h0 : c = 0
            · have h0' : (c == 0) = true := by simp [h0]
              have hG : Keep (fstG D 0 0 = (0, 0, 21)) := ⟨by rw [← hF.out, fstG, if_neg (by omega), if_pos ⟨h0, by omega⟩]⟩
              clear h0
              obtain ⟨rfl, rfl, rfl⟩ := tri ((show (0, ((0 : Nat) : Int), (21 : Int)) = fstM D most from (fstM_err hG.out (by decide) _).symm).trans HM.out)
              clear HM
              try clear h9
              try clear hp
              go_wp2_with fail
              go_quiet (fail)
              obtain ⟨w3, hw3⟩ : ∃ w3, Keep (w3 = w2.drewN nq) := ⟨_, ⟨rfl⟩⟩
              rw [← hw3.out]
              have HS3 := Keep.mk (HS2.out.later (w2 := w3) (by rw [hw3.out]; exact below_drewN _ _))
              have k1 := RfAt.c1 HS3.out.rf
              clear hw3 g0 g1 hc HS2
              go_wp2_with fail
              refine (xwrong_any x _ a 21 w3 HS3.out.rf).mono ?_
              rintro e w4 ⟨rfl, hr, hg⟩
              have HS4 := Keep.mk (HS3.out.turned hr hg)
              clear hr hg k1
              have d0 := HS4.out.d0
              have d1 := HS4.out.d1
              have e0 := HS4.out.cell.frozen 0
              have e1 := HS4.out.cell.frozen 1
              go_wp2
              have hf := HS4.out.fin (.int .i64 21) (.int .i64 (a : Int))
              exact bodyPost_ret (results_tmp_cell_row Try.results35 _ _ w.heap.size 27 _ (0, 0) _ _ rfl rfl hf.1 Try.underlying27 rfl Try.size27) rfl ⟨_, .inr ⟨by decide, rfl⟩, rfl, hf.2.1, hf.2.2⟩
            · have h0' : (c == 0) = false := by simpa using h0
              have hG : Keep (fstG D 0 0 = (sv, ((t + 1 : Nat) : Int), 0)) := ⟨by rw [← hF.out, fstG, if_neg (by omega), if_neg (by omega), if_pos (by omega), hsv.out]; rfl⟩
              by_cases hmost : (most : Int) < sv
              · have hmost' : (most : Int) < sv := hmost
                obtain ⟨rfl, rfl, rfl⟩ := tri ((show (0, ((0 : Nat) : Int), (22 : Int)) = fstM D most from (fstM_over hG.out hmost).symm).trans HM.out)
                clear HM
                try clear h9
                try clear hp
                go_wp2_with fail
                go_quiet (fail)
                obtain ⟨w3, hw3⟩ : ∃ w3, Keep (w3 = w2.drewN nq) := ⟨_, ⟨rfl⟩⟩
                rw [← hw3.out]
                have HS3 := Keep.mk (HS2.out.later (w2 := w3) (by rw [hw3.out]; exact below_drewN _ _))
                have k1 := RfAt.c1 HS3.out.rf
                clear hw3 g0 g1 hc HS2
                go_wp2_with fail
                refine (xwrong_any x _ a 22 w3 HS3.out.rf).mono ?_
                rintro e w4 ⟨rfl, hr, hg⟩
                have HS4 := Keep.mk (HS3.out.turned hr hg)
                clear hr hg k1
                have d0 := HS4.out.d0
                have d1 := HS4.out.d1
                have e0 := HS4.out.cell.frozen 0
                have e1 := HS4.out.cell.frozen 1
                go_wp2
                have hf := HS4.out.fin (.int .i64 22) (.int .i64 (a : Int))
                exact bodyPost_ret (results_tmp_cell_row Try.results35 _ _ w.heap.size 27 _ (0, 0) _ _ rfl rfl hf.1 Try.underlying27 rfl Try.size27) rfl ⟨_, .inr ⟨by decide, rfl⟩, rfl, hf.2.1, hf.2.2⟩
              · have hmost' : ¬ ((most : Int) < sv) := hmost
                obtain ⟨rfl, rfl, rfl⟩ := tri ((show (sv, ((t + 1 : Nat) : Int), (0 : Int)) = fstM D most from (fstM_ok hG.out hmost).symm).trans HM.out)
                clear HM
                try clear h9
                try clear hp
                go_wp2_with fail
                go_quiet (fail)
                obtain ⟨w3, hw3⟩ : ∃ w3, Keep (w3 = w2.drewN nq) := ⟨_, ⟨rfl⟩⟩
                rw [← hw3.out]
                have HS3 := Keep.mk (HS2.out.later (w2 := w3) (by rw [hw3.out]; exact below_drewN _ _))
                have k1 := RfAt.c1 HS3.out.rf
                clear hw3 g0 g1 hc HS2
                have hne : x ≠ w.heap.size := by have := HS3.out.lt; omega
                have hne' : w.heap.size ≠ x := fun e => hne e.symm
                have f1 := Blk.frozen HS3.out.rf 1
                have d0 := HS3.out.d0
                have d1 := HS3.out.d1
                have e0 := HS3.out.cell.frozen 0
                have e1 := HS3.out.cell.frozen 1
                go_wp2
                have hf := (HS3.out.step (a + (t + 1))).fin (.int .i64 0) (.int .i64 0)
                exact bodyPost_ret (results_tmp_cell_row Try.results35 _ _ w.heap.size 27 _ (0, 0) _ _ rfl rfl hf.1 Try.underlying27 rfl Try.size27) rfl ⟨_, .inl ⟨rfl, rfl⟩, rfl, hf.2.1, hf.2.2⟩
    · have hlt' : (l.length : Int) - (a : Int) ≤ (t : Int) := by have := Hlen.out; omega
      have hG : Keep (fstG D 0 0 = (0, 0, 20)) := ⟨by rw [← hF.out, List.drop_of_length_le (by omega), fstG]⟩
      have k1 := RfAt.c1 HS2.out.rf
      obtain ⟨rfl, rfl, rfl⟩ := tri ((show (0, ((0 : Nat) : Int), (20 : Int)) = fstM D most from (fstM_err hG.out (by decide) _).symm).trans HM.out)
      clear HM
      go_wp2_with fail
      refine (xwrong_any x _ a 20 w2 HS2.out.rf).mono ?_
      rintro e w4 ⟨rfl, hr, hg⟩
      have HS4 := Keep.mk (HS2.out.turned hr hg)
      clear hr hg k1
      have d0 := HS4.out.d0
      have d1 := HS4.out.d1
      have e0 := HS4.out.cell.frozen 0
      have e1 := HS4.out.cell.frozen 1
      go_wp2
      have hf := HS4.out.fin (.int .i64 20) (.int .i64 (a : Int))
      exact bodyPost_ret (results_tmp_cell_row Try.results35 _ _ w.heap.size 27 _ (0, 0) _ _ rfl rfl hf.1 Try.underlying27 rfl Try.size27) rfl ⟨_, .inr ⟨by decide, rfl⟩, rfl, hf.2.1, hf.2.2⟩
theorem own_empty (w : World) (g : Nat) (h : Blk w g 5 #[]) : Own w (.slice (some ⟨g, 0, none⟩) 0 0) [] := Own.mk (l := []) h (Nat.le_refl _) (Nat.zero_le _) rfl (by simp [bv])
theorem wp_app {Q : Exit → Act → World → Prop} {o : Oper} {a : Act} {w : World} {K : Act → World → Prop} (s x : Operand)
    (ho : o.op = .call { callee := .builtin .append, args := #[s, x], argTypes := #[22, 22] }) (v vx : Value) (l m : List Int)
    (hs : a.eval s = v) (hx : a.eval x = vx) (hown : Own w v l) (hrow : RowAt w vx m) (hb : l.length + m.length ≤ 140737488355328)
    (h : ∀ v' w', AppPost w v (l ++ m) v' w' → K (a.put o.dst v') w') : o.wp Try.prog a w K Q := by
  obtain ⟨v', w', hr, h2⟩ := run_app_row w o.type v vx l m hown hrow (by omega)
  unfold Oper.wp execOp
  simp only [ho, resolve, invoke, builtin, Sem.run_bind, Sem.run_pure, Result.andThen_ok, List.map_toArray, List.map_cons, List.map_nil, hs, hx, hr]
  exact h v' w' h2
theorem yieldsIf_slice2 {P : Program} {ops : Array Oper} {S : World → Prop} {op : Oper} {a : Act} (hw : Region.wanted op (yielded ops a.tmps) = true) (t : TypeId) (x lo hi : Operand) (ho : op.op = .slice t x (some lo) (some hi) none)
    (vx vl vh vs : Value) (hx : a.eval x = vx) (hl : a.eval lo = vl) (hh : a.eval hi = vh) (hr : ∀ w : World, (Instr.sliceAt t vx (some vl) (some vh) none).run P w = .ok vs w) : YieldsIf P ops S op vs a :=
  .inl ⟨hw, fun w _ => by
    unfold execOp
    simp only [ho, hx, hl, hh, Option.map_some, Option.map_none, Sem.run_bind, hr w, Result.andThen_ok, Sem.run_pure]⟩
theorem sl_run2 (base : Option Addr) (n cap a b : Nat) (hab : a ≤ b) (hb : b ≤ cap) (wx : World) : (Instr.sliceAt 22 (.slice base n cap) (some (.int .i64 (a : Int))) (some (.int .i64 (b : Int))) none).run Try.prog wx = .ok (sliced base a b cap 1) wx := by
  have hu : Try.prog.underlying 22 = some (.slice (Try.prog.elem 22)) := by rw [Try.elem22]; exact Try.underlying22
  have h1 := run_slice_lh (P := Try.prog) (w := wx) 22 base n cap hu .i64 .i64 (a : Int) (b : Int) (by omega) (by omega) (by omega)
  have h2 := run_sliceAt_slice (P := Try.prog) (w := wx) 22 (.slice base n cap) (some (.int .i64 (a : Int))) (some (.int .i64 (b : Int))) none hu
  rw [Try.elem22] at h1
  rw [h2, h1]
  refine (congrArg (fun z => Result.andThen z fun s w => Result.ok (sliced base (a : Int).toNat (b : Int).toNat cap s) w) (Try.sizeOf5 wx)).trans ?_
  show Result.ok (sliced base (a : Int).toNat (b : Int).toNat cap 1) wx = _
  rw [Int.toNat_natCast, Int.toNat_natCast]
theorem mid_any (vb : Value) (lb : List Int) (w : World) (hr : RowAt w vb lb) (a M : Nat) (ha : a + M ≤ lb.length) :
    ∃ vs, (∀ wx : World, (Instr.sliceAt 22 vb (some (.int .i64 (a : Int))) (some (.int .i64 ((a : Int) + (M : Int)))) none).run Try.prog wx = .ok vs wx) ∧ ∀ wx, RowAt wx vb lb → RowAt wx vs ((lb.drop a).take M) := by
  have e : ((a : Int) + (M : Int)) = ((a + M : Nat) : Int) := by omega
  rw [e]
  have hl : ((lb.drop a).take M).length = M := by rw [List.length_take, List.length_drop]; omega
  rcases hr with ⟨rfl, rfl⟩ | ⟨ad, c, rfl, rfl⟩ | ⟨h, off, cap, rfl, hc, _⟩
  · obtain rfl : a = 0 := by simp at ha; omega
    obtain rfl : M = 0 := by simp at ha; omega
    exact ⟨_, sl_run2 none 0 0 0 0 (by omega) (by omega), fun wx h => .inl ⟨rfl, by simp⟩⟩
  · obtain rfl : a = 0 := by simp at ha; omega
    obtain rfl : M = 0 := by simp at ha; omega
    refine ⟨_, sl_run2 (some ad) 0 c 0 0 (by omega) (by omega), fun wx h => .inr (.inl ?_)⟩
    unfold sliced
    split
    · exact ⟨_, _, rfl, by simp⟩
    · exact ⟨_, _, rfl, by simp⟩
  · refine ⟨_, sl_run2 (some ⟨h, off, none⟩) lb.length cap a (a + M) (by omega) (by omega), fun wx hx => ?_⟩
    unfold sliced
    by_cases hca : cap = a
    · obtain rfl : M = 0 := by omega
      rw [if_pos hca]
      exact .inr (.inl ⟨_, _, by rw [Nat.add_zero, Nat.sub_self], by simp⟩)
    · rw [if_neg hca]
      rcases hx with ⟨e, _⟩ | ⟨ad, c, e, h0⟩ | ⟨h', off', cap', e, _, h3⟩
      · cases e
      · injection e with e1 e2
        obtain rfl : M = 0 := by omega
        exact .inr (.inl ⟨_, _, by rw [Nat.add_zero, Nat.sub_self]; rfl, by simp⟩)
      · injection e with e1 e2 e3
        injection e1 with e1
        injection e1 with e1 e4
        subst e1 e3 e4
        refine .inr (.inr ⟨h, off + a, cap - a, ?_, by omega, fun i hi => ?_⟩)
        · rw [hl, show a + M - a = M by omega]
          show Value.slice (some (Addr.add ⟨h, off, none⟩ (a * 1))) M (cap - a) = _
          rw [Nat.mul_one]
          cases a <;> rfl
        · rw [hl] at hi
          rw [Nat.add_assoc, h3 (a + i) (by omega)]
          simp [List.getD_eq_getElem?_getD, hi]

def RfPostB (x : Nat) (vB : Value) (why : Int) (a : Nat) (l : List Int) (w : World) (e : Ending) (w' : World) : Prop :=
  ∃ b res, ErrB why a b ∧ e = .returned (.tuple #[res, .agg #[.int .i64 why, .int .i64 b]]) ∧ RfAt w' x vB a why b ∧ (Grown w w' fun k => k = x) ∧ RowAt w' res l ∧ ∀ k, res.ownBlock = some k → w.heap.size ≤ k
theorem row_two {w : World} {g : Nat} {v : Value} {l : List Int} (h : RowAt w v l) (hg : v.ownBlock ≠ some g) (a b : Value) : RowAt ((w.setCell ⟨g, 0, none⟩ a).setCell ⟨g, 1, none⟩ b) v l :=
  (h.grown (Grown.setCell w g 0 a (S := fun k => k = g) fun _ => rfl) (fun k hk _ e => hg (by rw [hk, e]))).grown (Grown.setCell _ g 1 b (S := fun k => k = g) fun _ => rfl) (fun k hk _ e => hg (by rw [hk, e]))


set_option maxRecDepth 8000 in
set_option maxHeartbeats 4000000 in
theorem xraw_good (x : Nat) (vB : Value) (l : List Int) (a : Nat) (n : Int) (w : World) (h : RfAt w x vB a 0 0) (hR : ∀ wx, (Grown w wx fun k => k = x) → RowAt wx vB l) (ha : a ≤ l.length) (hb : l.length ≤ 140737488355328) (D : List Int) (hD : D = l.drop a) (W : Int) (hW : W = nextW D n) (N : Nat) (hN : N = nextN D n) :
    Calls Try.prog 9 #[ptr x, .int .i64 n] w (RfPostB x vB W (a + N) (D.take N) w) := by
  have HS := Keep.mk (RS.start h)
  have HR := Keep.mk hR
  have hlen : D.length = l.length - a := by rw [hD, List.length_drop]
  obtain ⟨va, vc, hvB⟩ := row_form (hR w (Grown.refl _ _))
  subst hvB
  have Hb := Keep.mk hb
  have Ha := Keep.mk ha
  have hbi : (l.length : Int) ≤ 140737488355328 := by omega
  have hai : (a : Int) ≤ (l.length : Int) := by omega
  by_cases hneg : n < 0
  · have HW : W = 1 := by rw [hW]; unfold nextW; rw [if_pos hneg]
    have HN : N = 0 := by rw [hN]; exact nextN_1 D n (by rw [← hW, HW]; decide)
    subst HN
    rw [HW]
    clear h hR hW hN hlen ha hb hD HW
    go_enter Try.func9, Try.ntmps9
    go_wp2_with (first | (refine wpList_new rfl 27 rfl _ Try.new27 ?_; refine Hid.out ?_))
    refine hid_in ?_
    generalize w.alloc (.cells #[.int .i64 0, .int .i64 0] 27) = w1 at *
    have c2 := RfAt.c2 HS.out.rf
    have k1 := RfAt.c1 HS.out.rf
    go_wp2_with fail
    refine (xwrong_any x _ a 1 w1 HS.out.rf).mono ?_
    rintro e w4 ⟨rfl, hr, hg⟩
    have HS4 := Keep.mk (HS.out.turned hr hg)
    clear hr hg k1
    have d0 := HS4.out.d0
    have d1 := HS4.out.d1
    have e0 := HS4.out.cell.frozen 0
    have e1 := HS4.out.cell.frozen 1
    go_wp2
    have hf := HS4.out.fin (.int .i64 1) (.int .i64 (a : Int))
    exact bodyPost_ret (results_tmp_cell_row Try.results9 _ _ w.heap.size 27 _ (0, 0) _ _ rfl rfl hf.1 Try.underlying27 rfl Try.size27) rfl ⟨_, _, .inr ⟨by decide, rfl⟩, rfl, hf.2.1, hf.2.2, .inl ⟨rfl, by simp⟩, fun k hk => by simp [Value.ownBlock] at hk⟩
  by_cases hbig : (D.length : Int) < n
  · have HW : W = 20 := by rw [hW]; unfold nextW; rw [if_neg hneg, if_pos hbig]
    have HN : N = 0 := by rw [hN]; exact nextN_1 D n (by rw [← hW, HW]; decide)
    subst HN
    rw [HW]
    have hbig' : (l.length : Int) - (a : Int) < n := by omega
    clear h hR hW hN hlen ha hb hD HW
    go_enter Try.func9, Try.ntmps9
    go_wp2_with (first | (refine wpList_new rfl 27 rfl _ Try.new27 ?_; refine Hid.out ?_))
    refine hid_in ?_
    generalize w.alloc (.cells #[.int .i64 0, .int .i64 0] 27) = w1 at *
    have c2 := RfAt.c2 HS.out.rf
    go_wp2_with fail
    refine (xleft_any x _ l.length vc a 0 0 w1 HS.out.rf Ha.out Hb.out).mono ?_
    rintro e w2 ⟨rfl, qd, hw2⟩
    have HS2 := Keep.mk (HS.out.later (w2 := w2) (by rw [hw2]; exact below_drewN _ _))
    clear hw2 c2 HS
    have k1 := RfAt.c1 HS2.out.rf
    go_wp2_with fail
    refine (xwrong_any x _ a 20 w2 HS2.out.rf).mono ?_
    rintro e w4 ⟨rfl, hr, hg⟩
    have HS4 := Keep.mk (HS2.out.turned hr hg)
    clear hr hg k1
    have d0 := HS4.out.d0
    have d1 := HS4.out.d1
    have e0 := HS4.out.cell.frozen 0
    have e1 := HS4.out.cell.frozen 1
    go_wp2
    have hf := HS4.out.fin (.int .i64 20) (.int .i64 (a : Int))
    exact bodyPost_ret (results_tmp_cell_row Try.results9 _ _ w.heap.size 27 _ (0, 0) _ _ rfl rfl hf.1 Try.underlying27 rfl Try.size27) rfl ⟨_, _, .inr ⟨by decide, rfl⟩, rfl, hf.2.1, hf.2.2, .inl ⟨rfl, by simp⟩, fun k hk => by simp [Value.ownBlock] at hk⟩
  · obtain ⟨M, rfl⟩ : ∃ M : Nat, n = (M : Int) := ⟨n.toNat, by omega⟩
    have HW : W = 0 := by rw [hW]; unfold nextW; rw [if_neg hneg, if_neg hbig]
    have HN : N = M := by rw [hN, (nextN_0 D (M : Int) (by rw [← hW, HW])).1]; rfl
    subst HN
    rw [HW, hD]
    have hbig' : ¬ ((l.length : Int) - (a : Int) < (N : Int)) := by omega
    have hMl : a + N ≤ l.length := by omega
    have HMl : Keep (a + N ≤ l.length) := ⟨hMl⟩
    have hMi : (a : Int) + (N : Int) ≤ (l.length : Int) := by omega
    obtain ⟨vs, hsl, hrs⟩ := mid_any _ l w (hR w (Grown.refl _ _)) a N hMl
    have HRs := Keep.mk hrs
    clear hrs hMl
    clear h hR hW hN hlen ha hb hD HW
    go_enter Try.func9, Try.ntmps9
    go_wp2_with (first | (refine wpList_new rfl 27 rfl _ Try.new27 ?_; refine Hid.out ?_))
    refine hid_in ?_
    generalize w.alloc (.cells #[.int .i64 0, .int .i64 0] 27) = w1 at *
    have c2 := RfAt.c2 HS.out.rf
    go_wp2_with fail
    refine (xleft_any x _ l.length vc a 0 0 w1 HS.out.rf Ha.out Hb.out).mono ?_
    rintro e w2 ⟨rfl, qd, hw2⟩
    have HS2 := Keep.mk (HS.out.later (w2 := w2) (by rw [hw2]; exact below_drewN _ _))
    clear hw2 c2 HS
    have c2 := RfAt.c2 HS2.out.rf
    go_wp2_with fail
    obtain ⟨wk, rfl⟩ : ∃ wk, wk = w2 := ⟨_, rfl⟩
    have HE := Keep.mk (Blk.new wk 5 #[])
    have HS4 := Keep.mk (HS2.out.later (below_new wk (.cells #[] 5)))
    have Hxk : Keep (x < wk.heap.size) := ⟨Blk.lt HS2.out.rf⟩
    have Hgk : Keep (w.heap.size < wk.heap.size) := ⟨HS2.out.cell.lt⟩
    generalize wk.alloc (.cells #[] 5) = w4 at *
    have HRv : Keep (RowAt w4.drew vs ((l.drop a).take N)) := ⟨HRs.out _ (HR.out _ HS4.out.gr.drew)⟩
    have g0 : w4.drew.cell? ⟨x, 0, none⟩ = some (Value.slice va l.length vc) := RfAt.c0 HS4.out.rf
    have g1 : w4.drew.cell? ⟨x, 1, none⟩ = some (.int .i64 (a : Int)) := RfAt.c1 HS4.out.rf
    have hwi : IntKind.i64.wrap ((a : Int) + (N : Int)) = (a : Int) + (N : Int) := by rw [IntKind.wrap_i64]; omega
    clear c2 HS2
    refine wp_region_held_drew (S := fun wx => wx.cell? ⟨x, 0, none⟩ = some (Value.slice va l.length vc) ∧ wx.cell? ⟨x, 1, none⟩ = some (.int .i64 (a : Int))) (by kernel_rfl) ⟨g0, g1⟩ (fun hHeld => ?_)
    refine wpAnyH_take (i := 0) (oi := ⟨some 36, Op.move (Operand.tmp 6), 22, _, _, none⟩) (v := .slice (some ⟨wk.heap.size, 0, none⟩) 0 0) rfl (by kernel_rfl) (by kernel_rfl) (by kernel_rfl) (fun _ _ _ h => h) (Or.inl ⟨by rfl, fun w hS => by go_simp⟩) hHeld ?_
    simp only [Act.put, List.setIfInBounds_toArray, List.set_cons_zero, List.set_cons_succ]
    refine wpAnyH_take (i := 1) (oi := ⟨some 37, Op.move (Operand.tmp 0), 25, _, _, none⟩) (v := ptr x) rfl (by kernel_rfl) (by kernel_rfl) (by kernel_rfl) (fun _ _ _ h => h) (Or.inl ⟨by rfl, fun w hS => by go_simp⟩) hHeld ?_
    simp only [Act.put, List.setIfInBounds_toArray, List.set_cons_zero, List.set_cons_succ]
    refine wpAnyH_take (i := 2) (oi := ⟨some 38, Op.nilCheck (Operand.tmp 37), 0, _, _, none⟩) (v := .pointer (some ⟨x, 0, none⟩)) rfl (by kernel_rfl) (by kernel_rfl) (by kernel_rfl) (fun _ _ _ h => h) (Or.inl ⟨by rfl, fun w hS => by go_simp⟩) hHeld ?_
    simp only [Act.put, List.setIfInBounds_toArray, List.set_cons_zero, List.set_cons_succ]
    refine wpAnyH_take (i := 3) (oi := ⟨some 39, Op.fieldAddr 29 (Operand.tmp 38) 0, 0, _, _, none⟩) (v := .pointer (some ⟨x, 0, none⟩)) rfl (by kernel_rfl) (by kernel_rfl) (by kernel_rfl) (fun _ _ _ h => h) (Or.inl ⟨by rfl, fun w hS => by go_simp⟩) hHeld ?_
    simp only [Act.put, List.setIfInBounds_toArray, List.set_cons_zero, List.set_cons_succ]
    refine wpAnyH_take (i := 4) (oi := ⟨some 40, Op.load 22 (Operand.tmp 39), 22, _, _, none⟩) (v := Value.slice va l.length vc) rfl (by kernel_rfl) (by kernel_rfl) (by kernel_rfl) (fun _ _ _ h => h) (Or.inl ⟨by rfl, fun w hS => by (obtain ⟨hS1, hS2⟩ := hS; clear hS2; go_simp)⟩) hHeld ?_
    simp only [Act.put, List.setIfInBounds_toArray, List.set_cons_zero, List.set_cons_succ]
    refine wpAnyH_take (i := 5) (oi := ⟨some 41, Op.move (Operand.tmp 0), 25, _, _, none⟩) (v := ptr x) rfl (by kernel_rfl) (by kernel_rfl) (by kernel_rfl) (fun _ _ _ h => h) (Or.inl ⟨by rfl, fun w hS => by go_simp⟩) hHeld ?_
    simp only [Act.put, List.setIfInBounds_toArray, List.set_cons_zero, List.set_cons_succ]
    refine wpAnyH_take (i := 6) (oi := ⟨some 42, Op.nilCheck (Operand.tmp 41), 0, _, _, none⟩) (v := .pointer (some ⟨x, 0, none⟩)) rfl (by kernel_rfl) (by kernel_rfl) (by kernel_rfl) (fun _ _ _ h => h) (Or.inl ⟨by rfl, fun w hS => by go_simp⟩) hHeld ?_
    simp only [Act.put, List.setIfInBounds_toArray, List.set_cons_zero, List.set_cons_succ]
    refine wpAnyH_take (i := 7) (oi := ⟨some 43, Op.fieldAddr 29 (Operand.tmp 42) 1, 0, _, _, none⟩) (v := .pointer (some ⟨x, 1, none⟩)) rfl (by kernel_rfl) (by kernel_rfl) (by kernel_rfl) (fun _ _ _ h => h) (Or.inl ⟨by rfl, fun w hS => by go_simp⟩) hHeld ?_
    simp only [Act.put, List.setIfInBounds_toArray, List.set_cons_zero, List.set_cons_succ]
    refine wpAnyH_take (i := 8) (oi := ⟨some 44, Op.load 3 (Operand.tmp 43), 3, _, _, none⟩) (v := .int .i64 (a : Int)) rfl (by kernel_rfl) (by kernel_rfl) (by kernel_rfl) (fun _ _ _ h => h) (Or.inl ⟨by rfl, fun w hS => by (obtain ⟨hS1, hS2⟩ := hS; clear hS1; go_simp)⟩) hHeld ?_
    simp only [Act.put, List.setIfInBounds_toArray, List.set_cons_zero, List.set_cons_succ]
    refine wpAnyH_take (i := 9) (oi := ⟨some 45, Op.move (Operand.tmp 0), 25, _, _, none⟩) (v := ptr x) rfl (by kernel_rfl) (by kernel_rfl) (by kernel_rfl) (fun _ _ _ h => h) (Or.inl ⟨by rfl, fun w hS => by go_simp⟩) hHeld ?_
    simp only [Act.put, List.setIfInBounds_toArray, List.set_cons_zero, List.set_cons_succ]
    refine wpAnyH_take (i := 10) (oi := ⟨some 46, Op.nilCheck (Operand.tmp 45), 0, _, _, none⟩) (v := .pointer (some ⟨x, 0, none⟩)) rfl (by kernel_rfl) (by kernel_rfl) (by kernel_rfl) (fun _ _ _ h => h) (Or.inl ⟨by rfl, fun w hS => by go_simp⟩) hHeld ?_
    simp only [Act.put, List.setIfInBounds_toArray, List.set_cons_zero, List.set_cons_succ]
    refine wpAnyH_take (i := 11) (oi := ⟨some 47, Op.fieldAddr 29 (Operand.tmp 46) 1, 0, _, _, none⟩) (v := .pointer (some ⟨x, 1, none⟩)) rfl (by kernel_rfl) (by kernel_rfl) (by kernel_rfl) (fun _ _ _ h => h) (Or.inl ⟨by rfl, fun w hS => by go_simp⟩) hHeld ?_
    simp only [Act.put, List.setIfInBounds_toArray, List.set_cons_zero, List.set_cons_succ]
    refine wpAnyH_take (i := 12) (oi := ⟨some 48, Op.load 3 (Operand.tmp 47), 3, _, _, none⟩) (v := .int .i64 (a : Int)) rfl (by kernel_rfl) (by kernel_rfl) (by kernel_rfl) (fun _ _ _ h => h) (Or.inl ⟨by rfl, fun w hS => by (obtain ⟨hS1, hS2⟩ := hS; clear hS1; go_simp)⟩) hHeld ?_
    simp only [Act.put, List.setIfInBounds_toArray, List.set_cons_zero, List.set_cons_succ]
    refine wpAnyH_take (i := 13) (oi := ⟨some 49, Op.move (Operand.tmp 1), 3, _, _, none⟩) (v := .int .i64 (N : Int)) rfl (by kernel_rfl) (by kernel_rfl) (by kernel_rfl) (fun _ _ _ h => h) (Or.inl ⟨by rfl, fun w hS => by go_simp⟩) hHeld ?_
    simp only [Act.put, List.setIfInBounds_toArray, List.set_cons_zero, List.set_cons_succ]
    refine wpAnyH_take (i := 14) (oi := ⟨some 50, Op.binOp BinOp.add 3 (Operand.tmp 48) (Operand.tmp 49) 3, 3, _, _, none⟩) (v := .int .i64 ((a : Int) + (N : Int))) rfl (by kernel_rfl) (by kernel_rfl) (by kernel_rfl) (fun _ _ _ h => h) (Or.inl ⟨by rfl, fun w hS => by go_simp⟩) hHeld ?_
    simp only [Act.put, List.setIfInBounds_toArray, List.set_cons_zero, List.set_cons_succ]
    refine wpAnyH_take (i := 15) (oi := ⟨some 51, Op.slice 22 (Operand.tmp 40) (some (Operand.tmp 44)) (some (Operand.tmp 50)) none, 22, _, _, none⟩) (v := vs) rfl (by kernel_rfl) (by kernel_rfl) (by kernel_rfl) (fun _ _ _ h => h) (yieldsIf_slice2 (by rfl) 22 (.tmp 40) (.tmp 44) (.tmp 50) rfl (Value.slice va l.length vc) (.int .i64 (a : Int)) (.int .i64 ((a : Int) + (N : Int))) vs rfl rfl rfl hsl) hHeld ?_
    simp only [Act.put, List.setIfInBounds_toArray, List.set_cons_zero, List.set_cons_succ]
    refine wpAnyH_ready (rs := [16]) (by kernel_rfl) (by simp) ?_
    refine AllReadyH.cons (o := ⟨some 52, Op.call { callee := Callee.builtin Builtin.append, args := #[Operand.tmp 36, Operand.tmp 51], argTypes := #[22, 22] }, 22, _, _, none⟩) rfl (fun K hK => ?_) AllReadyH.nil
    rw [if_pos (by rfl)]
    refine wp_app (.tmp 36) (.tmp 51) rfl (.slice (some ⟨wk.heap.size, 0, none⟩) 0 0) vs [] ((l.drop a).take N) rfl rfl (own_empty _ _ HE.out.drew) HRv.out (by rw [List.length_take, List.length_nil]; have := Hb.out; have := HMl.out; omega) ?_
    intro v' w5 hp
    have HP := Keep.mk hp
    have hrx : RfAt w5 x (Value.slice va l.length vc) a 0 0 := HP.out.grown.blk (Blk.drew HS4.out.rf) (by simp [Value.ownBlock]; have := Hxk.out; omega)
    refine hK.out _ _ ⟨hrx.c0, hrx.c1⟩ fun hHeld5 => ?_
    clear hK
    simp only [Act.put, List.setIfInBounds_toArray, List.set_cons_zero, List.set_cons_succ]
    refine wpAnyH_take (i := 17) (oi := ⟨some 6, Op.assign (Operand.tmp 52), 22, _, _, none⟩) (v := v') rfl (by kernel_rfl) (by kernel_rfl) (by kernel_rfl) (fun _ _ _ h => h) (Or.inl ⟨by rfl, fun w hS => by go_simp⟩) hHeld5 ?_
    simp only [Act.put, List.setIfInBounds_toArray, List.set_cons_zero, List.set_cons_succ]
    refine wpAnyH_done (by kernel_rfl) ?_ _
    have HS5 : Keep (RS w x (Value.slice va l.length vc) a 0 0 w5) := ⟨⟨hrx, HP.out.grown.blk (Blk.drew HS4.out.cell) (by simp [Value.ownBlock]; have := Hgk.out; omega), HS4.out.gr.drew.next HP.out.grown (fun k hk e => by simp [Value.ownBlock] at e; have := Hgk.out; omega), HS4.out.lt⟩⟩
    have hO := HP.out.1
    rw [List.nil_append] at hO
    have hnx : v'.ownBlock ≠ some x := fun e => absurd ((Blk.typ hrx).one (hO.typ e)) (by decide)
    have hng : v'.ownBlock ≠ some w.heap.size := fun e => absurd (HS5.out.cell.typ.one (hO.typ e)) (by decide)
    have HOk : Keep (∀ k, v'.ownBlock = some k → w.heap.size ≤ k) := ⟨fun k hk => by
      rcases HP.out.moved with e | ⟨k', e, hk'⟩
      · rw [e] at hk; simp [Value.ownBlock] at hk; have := Hgk.out; omega
      · rw [e] at hk
        injection hk with hk
        have : w4.heap.size ≤ k' := hk'
        have := HS4.out.gr.size
        omega⟩
    have HRo : Keep (RowAt (((w5.setCell ⟨x, 1, none⟩ (.int .i64 ((a : Int) + (N : Int)))).setCell ⟨w.heap.size, 0, none⟩ (.int .i64 0)).setCell ⟨w.heap.size, 1, none⟩ (.int .i64 0)) v' ((l.drop a).take N)) := ⟨row_two (hO.row.grown (Grown.setCell w5 x 1 _ (S := fun k => k = x) fun _ => rfl) (fun k hk _ e => hnx (by rw [hk, e]))) hng _ _⟩
    have hne : x ≠ w.heap.size := by have := HS5.out.lt; omega
    have hne' : w.heap.size ≠ x := fun e => hne e.symm
    have k1 := RfAt.c1 HS5.out.rf
    have f1 := Blk.frozen HS5.out.rf 1
    have d0 := HS5.out.d0
    have d1 := HS5.out.d1
    have e0 := HS5.out.cell.frozen 0
    have e1 := HS5.out.cell.frozen 1
    clear hO hnx hng hrx HP HS4 HE HRv g0 g1 hsl HR HRs hp
    go_wp2
    have hf := (HS5.out.step (a + N)).fin (.int .i64 0) (.int .i64 0)
    exact bodyPost_ret (results_tmp_cell_row Try.results9 _ _ w.heap.size 27 _ (0, 0) _ _ rfl rfl hf.1 Try.underlying27 rfl Try.size27) rfl ⟨_, _, .inl ⟨rfl, rfl⟩, rfl, hf.2.1, hf.2.2, HRo.out, HOk.out⟩
set_option maxRecDepth 8000 in
set_option maxHeartbeats 1000000 in
theorem xzag_any (x : Int) (w : World) (hx0 : 0 ≤ x) (hx1 : x < 18446744073709551616) :
    Calls Try.prog 80 #[.int .u64 x] w fun e w' => e = .returned (.int .i64 (zag x)) ∧ w' = w := by
  have h2 : 0 ≤ x / 2 := by omega
  have h3 : x / 2 ≤ 9223372036854775807 := by omega
  obtain ⟨z, hz⟩ : ∃ z, Keep (z = zag x) := ⟨_, ⟨rfl⟩⟩
  rw [← hz.out]
  by_cases h : x % 2 = 0
  · have h' : (x % 2 == 0) = true := by simp [h]
    have hy : Keep (z = x / 2) := ⟨by rw [hz.out]; unfold zag; rw [if_neg (by omega)]⟩
    clear hx1 h hz
    go_enter Try.func80, Try.ntmps80
    go_wp2
    go_ret
    refine ⟨?_, rfl⟩
    rw [hy.out]
    try rfl
  · have h' : (x % 2 == 0) = false := by simpa using h
    have hy : Keep (z = -(x / 2) - 1) := ⟨by rw [hz.out]; unfold zag; rw [if_pos (by omega)]⟩
    clear hx1 h hz
    go_enter Try.func80, Try.ntmps80
    go_wp2
    go_ret
    refine ⟨?_, rfl⟩
    rw [hy.out]
    try rfl

set_option maxRecDepth 8000 in
set_option maxHeartbeats 2000000 in
theorem xsigned_bad (x : Nat) (vB : Value) (a : Nat) (why b : Int) (w : World) (h : RfAt w x vB a why b) (hw : why ≠ 0) :
    Calls Try.prog 56 #[ptr x] w (RfStuck why b (.int .i64 0) w) := by
  have HS := Keep.mk (RS.start h)
  have HB := Keep.mk (below_new w (.cells #[.int .i64 0, .int .i64 0] 27))
  have hy1 : (why == 0) = false := by simpa using hw
  have Hw := Keep.mk hw
  clear h hw
  go_enter Try.func56, Try.ntmps56
  go_wp2_with (first | (refine wpList_new rfl 27 rfl _ Try.new27 ?_; refine Hid.out ?_))
  refine hid_in ?_
  generalize w.alloc (.cells #[.int .i64 0, .int .i64 0] 27) = w1 at *
  go_wp2_with fail
  refine (xnum_bad x vB a why b _ w1 HS.out.rf Hw.out).mono ?_
  rintro e w2 ⟨rfl, hb2⟩
  have HS2 := Keep.mk (HS.out.later hb2)
  have HB2 := Keep.mk (HB.out.trans (hb2.mono HB.out.size))
  clear hb2 HS HB
  go_wp2_with (first | (refine wpList_new rfl 27 rfl _ Try.new27 ?_; refine Hid.out ?_))
  refine hid_in ?_
  have HN := Keep.mk (Blk.new w2 27 #[.int .i64 0, .int .i64 0])
  have HA := Keep.mk (below_new w2 (.cells #[.int .i64 0, .int .i64 0] 27))
  generalize w2.alloc (.cells #[.int .i64 0, .int .i64 0] 27) = w3 at *
  have n0 : w3.cell? ⟨w2.heap.size, 0, none⟩ = some (.int .i64 0) := by rw [HN.out.cell]; rfl
  have n1 : w3.cell? ⟨w2.heap.size, 1, none⟩ = some (.int .i64 0) := by rw [HN.out.cell]; rfl
  have m0 := HN.out.frozen 0
  have m1 := HN.out.frozen 1
  go_wp2_with fail
  have HN4 := Keep.mk (show Blk ((w3.setCell ⟨w2.heap.size, 0, none⟩ (.int .i64 why)).setCell ⟨w2.heap.size, 1, none⟩ (.int .i64 b)) w2.heap.size 27 #[.int .i64 why, .int .i64 b] from (HN.out.set 0 _).set 1 _)
  have HB4 := Keep.mk (below_two HA.out (Nat.le_refl _) (.int .i64 why) (.int .i64 b))
  clear n0 n1 m0 m1 HN HA
  generalize (w3.setCell ⟨w2.heap.size, 0, none⟩ (.int .i64 why)).setCell ⟨w2.heap.size, 1, none⟩ (.int .i64 b) = w4 at *
  have HS4 := Keep.mk (HS2.out.later HB4.out)
  have HB5 := Keep.mk (HB2.out.trans (HB4.out.mono HB2.out.size))
  have n0 : w4.cell? ⟨w2.heap.size, 0, none⟩ = some (.int .i64 why) := by rw [HN4.out.cell]; rfl
  have n1 : w4.cell? ⟨w2.heap.size, 1, none⟩ = some (.int .i64 b) := by rw [HN4.out.cell]; rfl
  have d0 := HS4.out.d0
  have d1 := HS4.out.d1
  have e0 := HS4.out.cell.frozen 0
  have e1 := HS4.out.cell.frozen 1
  clear HS2 HB2 HB4 HN4
  go_region
  go_wp2
  exact bodyPost_ret (results_tmp_cell_row Try.results56 _ _ w.heap.size 27 _ (0, 0) _ _ rfl rfl (HS4.out.fin (.int .i64 why) (.int .i64 b)).1.drew Try.underlying27 rfl Try.size27) rfl ⟨rfl, (below_two HB5.out (Nat.le_refl _) _ _).drew⟩

set_option maxRecDepth 8000 in
set_option maxHeartbeats 4000000 in
theorem xsigned_good (x : Nat) (vB : Value) (l : List Int) (a : Nat) (w : World) (h : RfAt w x vB a 0 0) (hR : ∀ wx, (Grown w wx fun k => k = x) → RowAt wx vB l) (ha : a ≤ l.length) (hb : l.length ≤ 140737488355328) (hby : Byts l) (D : List Int) (hD : D = l.drop a) (W X : Int) (N : Nat) (hM : fstM D 18446744073709551615 = (X, (N : Int), W)) (y : Int) (hy : y = if W = 0 then zag X else 0) (hx0 : 0 ≤ X) (hx1 : X < 18446744073709551616) :
    Calls Try.prog 56 #[ptr x] w (RfPost x vB W (a + N) (.int .i64 y) w) := by
  have HS := Keep.mk (RS.start h)
  have HC : Keep (∀ w1, RS w x vB a 0 0 w1 → Calls Try.prog 35 #[ptr x, .int .u64 18446744073709551615] w1 (RfPost x vB W (a + N) (.int .u64 X) w1)) := ⟨fun w1 hs => by
    have := xnum_good x vB l a 18446744073709551615 w1 hs.rf (fun wx hg => hR wx (hs.gr.trans hg)) ha hb hby D hD W X N hM
    rw [show ((18446744073709551615 : Nat) : Int) = 18446744073709551615 from rfl] at this
    exact this⟩
  have HX0 := Keep.mk hx0
  have HX1 := Keep.mk hx1
  have HY := Keep.mk hy
  clear h hR ha hb hby hD hM hy hx0 hx1
  go_enter Try.func56, Try.ntmps56
  go_wp2_with (first | (refine wpList_new rfl 27 rfl _ Try.new27 ?_; refine Hid.out ?_))
  refine hid_in ?_
  generalize w.alloc (.cells #[.int .i64 0, .int .i64 0] 27) = w1 at *
  go_wp2_with fail
  refine (HC.out w1 HS.out).mono ?_
  rintro e w2 ⟨b, hE, rfl, hr, hg⟩
  have HS2 := Keep.mk (HS.out.turned hr hg)
  clear hr hg HS HC
  rcases hE with ⟨hW, rfl⟩ | ⟨hW, rfl⟩
  · obtain rfl : y = zag X := by rw [HY.out, if_pos hW]
    subst hW
    clear HY
    go_wp2_with (first | (refine wpList_new rfl 27 rfl _ Try.new27 ?_; refine Hid.out ?_))
    refine hid_in ?_
    have HN := Keep.mk (Blk.new w2 27 #[.int .i64 0, .int .i64 0])
    have HA := Keep.mk (below_new w2 (.cells #[.int .i64 0, .int .i64 0] 27))
    generalize w2.alloc (.cells #[.int .i64 0, .int .i64 0] 27) = w3 at *
    have n0 : w3.cell? ⟨w2.heap.size, 0, none⟩ = some (.int .i64 0) := by rw [HN.out.cell]; rfl
    have n1 : w3.cell? ⟨w2.heap.size, 1, none⟩ = some (.int .i64 0) := by rw [HN.out.cell]; rfl
    have m0 := HN.out.frozen 0
    have m1 := HN.out.frozen 1
    go_wp2_with fail
    have HN4 := Keep.mk (show Blk ((w3.setCell ⟨w2.heap.size, 0, none⟩ (.int .i64 0)).setCell ⟨w2.heap.size, 1, none⟩ (.int .i64 0)) w2.heap.size 27 #[.int .i64 0, .int .i64 0] from (HN.out.set 0 _).set 1 _)
    have HB4 := Keep.mk (below_two HA.out (Nat.le_refl _) (.int .i64 0) (.int .i64 0))
    clear n0 n1 m0 m1 HN HA
    generalize (w3.setCell ⟨w2.heap.size, 0, none⟩ (.int .i64 0)).setCell ⟨w2.heap.size, 1, none⟩ (.int .i64 0) = w4 at *
    have HS4 := Keep.mk (HS2.out.later HB4.out)
    have n0 : w4.cell? ⟨w2.heap.size, 0, none⟩ = some (.int .i64 0) := by rw [HN4.out.cell]; rfl
    have n1 : w4.cell? ⟨w2.heap.size, 1, none⟩ = some (.int .i64 0) := by rw [HN4.out.cell]; rfl
    have d0 := HS4.out.d0
    have d1 := HS4.out.d1
    have e0 := HS4.out.cell.frozen 0
    have e1 := HS4.out.cell.frozen 1
    clear HB4 HN4 HS2
    go_region_with (go_at_call 80; refine (xzag_any X _ HX0.out HX1.out).mono ?_; rintro e w' ⟨rfl, rfl⟩)
    all_goals
      go_wp2
      have hf := HS4.out.fin (.int .i64 0) (.int .i64 0)
      exact bodyPost_ret (results_tmp_cell_row Try.results56 _ _ w.heap.size 27 _ (0, 0) _ _ rfl rfl hf.1.drew Try.underlying27 rfl Try.size27) rfl ⟨_, .inl ⟨rfl, rfl⟩, rfl, (Blk.drew hf.2.1), hf.2.2.drew⟩
  · obtain rfl : y = 0 := by rw [HY.out, if_neg hW]
    have Hw0 := Keep.mk hW
    have hy1 : (W == 0) = false := by simpa using hW
    clear HY hW
    go_wp2_with (first | (refine wpList_new rfl 27 rfl _ Try.new27 ?_; refine Hid.out ?_))
    refine hid_in ?_
    have HN := Keep.mk (Blk.new w2 27 #[.int .i64 0, .int .i64 0])
    have HA := Keep.mk (below_new w2 (.cells #[.int .i64 0, .int .i64 0] 27))
    generalize w2.alloc (.cells #[.int .i64 0, .int .i64 0] 27) = w3 at *
    have n0 : w3.cell? ⟨w2.heap.size, 0, none⟩ = some (.int .i64 0) := by rw [HN.out.cell]; rfl
    have n1 : w3.cell? ⟨w2.heap.size, 1, none⟩ = some (.int .i64 0) := by rw [HN.out.cell]; rfl
    have m0 := HN.out.frozen 0
    have m1 := HN.out.frozen 1
    go_wp2_with fail
    have HN4 := Keep.mk (show Blk ((w3.setCell ⟨w2.heap.size, 0, none⟩ (.int .i64 W)).setCell ⟨w2.heap.size, 1, none⟩ (.int .i64 ((a : Int) + (N : Int)))) w2.heap.size 27 #[.int .i64 W, .int .i64 ((a : Int) + (N : Int))] from (HN.out.set 0 _).set 1 _)
    have HB4 := Keep.mk (below_two HA.out (Nat.le_refl _) (.int .i64 W) (.int .i64 ((a : Int) + (N : Int))))
    clear n0 n1 m0 m1 HN HA
    generalize (w3.setCell ⟨w2.heap.size, 0, none⟩ (.int .i64 W)).setCell ⟨w2.heap.size, 1, none⟩ (.int .i64 ((a : Int) + (N : Int))) = w4 at *
    have HS4 := Keep.mk (HS2.out.later HB4.out)
    have n0 : w4.cell? ⟨w2.heap.size, 0, none⟩ = some (.int .i64 W) := by rw [HN4.out.cell]; rfl
    have n1 : w4.cell? ⟨w2.heap.size, 1, none⟩ = some (.int .i64 ((a : Int) + (N : Int))) := by rw [HN4.out.cell]; rfl
    have d0 := HS4.out.d0
    have d1 := HS4.out.d1
    have e0 := HS4.out.cell.frozen 0
    have e1 := HS4.out.cell.frozen 1
    clear HB4 HN4 HS2
    go_region
    go_wp2
    have hf := HS4.out.fin (.int .i64 W) (.int .i64 ((a : Int) + (N : Int)))
    exact bodyPost_ret (results_tmp_cell_row Try.results56 _ _ w.heap.size 27 _ (0, 0) _ _ rfl rfl hf.1.drew Try.underlying27 rfl Try.size27) rfl ⟨_, .inr ⟨Hw0.out, rfl⟩, rfl, (Blk.drew hf.2.1), hf.2.2.drew⟩

set_option maxRecDepth 8000 in
set_option maxHeartbeats 2000000 in
theorem xbytes_bad (x : Nat) (vB : Value) (a : Nat) (why b most : Int) (w : World) (h : RfAt w x vB a why b) (hw : why ≠ 0) (hm1 : -9223372036854775808 ≤ most) (hm2 : most ≤ 9223372036854775807) :
    Calls Try.prog 79 #[ptr x, .int .i64 most] w (RfStuck why b (.slice none 0 0) w) := by
  have HS := Keep.mk (RS.start h)
  have HB := Keep.mk (below_new w (.cells #[.int .i64 0, .int .i64 0] 27))
  have hy1 : (why == 0) = false := by simpa using hw
  have Hw := Keep.mk hw
  have hwm : Keep (0 ≤ most → IntKind.u64.wrap most = most) := ⟨fun h => by rw [IntKind.wrap_u64]; omega⟩
  clear h hw hm1 hm2
  by_cases hneg : most < 0
  all_goals
    go_enter Try.func79, Try.ntmps79
    go_wp2_with (first | (refine wpList_new rfl 27 rfl _ Try.new27 ?_; refine Hid.out ?_))
    refine hid_in ?_
    generalize w.alloc (.cells #[.int .i64 0, .int .i64 0] 27) = w1 at *
    go_wp2_with fail
    refine (xnum_bad x vB a why b _ w1 HS.out.rf Hw.out).mono ?_
    rintro e w2 ⟨rfl, hb2⟩
    have HS2 := Keep.mk (HS.out.later hb2)
    have HB2 := Keep.mk (HB.out.trans (hb2.mono HB.out.size))
    clear hb2 HS HB
    go_wp2_with (first | (refine wpList_new rfl 27 rfl _ Try.new27 ?_; refine Hid.out ?_))
    refine hid_in ?_
    have HN := Keep.mk (Blk.new w2 27 #[.int .i64 0, .int .i64 0])
    have HA := Keep.mk (below_new w2 (.cells #[.int .i64 0, .int .i64 0] 27))
    generalize w2.alloc (.cells #[.int .i64 0, .int .i64 0] 27) = w3 at *
    have n0 : w3.cell? ⟨w2.heap.size, 0, none⟩ = some (.int .i64 0) := by rw [HN.out.cell]; rfl
    have n1 : w3.cell? ⟨w2.heap.size, 1, none⟩ = some (.int .i64 0) := by rw [HN.out.cell]; rfl
    have m0 := HN.out.frozen 0
    have m1 := HN.out.frozen 1
    go_wp2_with fail
    have HN4 := Keep.mk (show Blk ((w3.setCell ⟨w2.heap.size, 0, none⟩ (.int .i64 why)).setCell ⟨w2.heap.size, 1, none⟩ (.int .i64 b)) w2.heap.size 27 #[.int .i64 why, .int .i64 b] from (HN.out.set 0 _).set 1 _)
    have HB4 := Keep.mk (below_two HA.out (Nat.le_refl _) (.int .i64 why) (.int .i64 b))
    clear n0 n1 m0 m1 HN HA
    generalize (w3.setCell ⟨w2.heap.size, 0, none⟩ (.int .i64 why)).setCell ⟨w2.heap.size, 1, none⟩ (.int .i64 b) = w4 at *
    have HS4 := Keep.mk (HS2.out.later HB4.out)
    have HB5 := Keep.mk (HB2.out.trans (HB4.out.mono HB2.out.size))
    have n0 : w4.cell? ⟨w2.heap.size, 0, none⟩ = some (.int .i64 why) := by rw [HN4.out.cell]; rfl
    have n1 : w4.cell? ⟨w2.heap.size, 1, none⟩ = some (.int .i64 b) := by rw [HN4.out.cell]; rfl
    have d0 := HS4.out.d0
    have d1 := HS4.out.d1
    have e0 := HS4.out.cell.frozen 0
    have e1 := HS4.out.cell.frozen 1
    clear HS2 HB2 HB4 HN4
    go_region
    go_wp2
    exact bodyPost_ret (results_tmp_cell_row Try.results79 _ _ w.heap.size 27 _ (0, 0) _ _ rfl rfl (HS4.out.fin (.int .i64 why) (.int .i64 b)).1.drew Try.underlying27 rfl Try.size27) rfl ⟨rfl, (below_two HB5.out (Nat.le_refl _) _ _).drew⟩
set_option maxRecDepth 8000 in
set_option maxHeartbeats 4000000 in
theorem xbytes_good (x : Nat) (vB : Value) (l : List Int) (a : Nat) (w : World) (h : RfAt w x vB a 0 0) (hR : ∀ wx, (Grown w wx fun k => k = x) → RowAt wx vB l) (ha : a ≤ l.length) (hb : l.length ≤ 140737488355328) (hby : Byts l) (D : List Int) (hD : D = l.drop a) (most : Int) (mm : Nat) (hmm : (mm : Int) = max most 0) (hm2 : mm ≤ 9223372036854775807) (W : Int) (hW : W = (byt D (mm : Int)).1) (N : Nat) (hN : N = (byt D (mm : Int)).2.1) (L : List Int) (hL : L = (byt D (mm : Int)).2.2) :
    Calls Try.prog 79 #[ptr x, .int .i64 most] w (RfPostB x vB W (a + N) L w) := by
  have HS := Keep.mk (RS.start h)
  have HR := Keep.mk hR
  have Hb := Keep.mk hb
  have HD := Keep.mk hD
  have hsh := fstM_shape D (mm : Int)
  have hle := fstM_le D (mm : Int) (by rw [hD]; exact fun c hc => hby c (List.mem_of_mem_drop hc))
  have hby2 := byt_eq D (mm : Int)
  have hDl : D.length = l.length - a := by rw [hD, List.length_drop]
  obtain ⟨X, N1, W1, hM⟩ : ∃ X N1 W1, fstM D (mm : Int) = (X, ((N1 : Nat) : Int), W1) := ⟨(fstM D (mm : Int)).1, (fstM D (mm : Int)).2.1.toNat, (fstM D (mm : Int)).2.2, by rw [Int.toNat_of_nonneg hsh.2.1]⟩
  have hC := fun (w1 : World) (hs : RS w x vB a 0 0 w1) => xnum_good x vB l a mm w1 hs.rf (fun wx hg => hR wx (hs.gr.trans hg)) ha hb hby D hD W1 X N1 hM
  rw [hM] at hsh hle hby2
  simp only [Int.toNat_natCast] at hsh hle hby2
  rw [hby2] at hW hN hL
  have HZ : Keep (W1 = 0 → 0 ≤ X ∧ X ≤ 9223372036854775807 ∧ W = nextW (D.drop N1) X ∧ N = N1 + nextN (D.drop N1) X ∧ L = (D.drop N1).take (nextN (D.drop N1) X) ∧ a + N1 ≤ l.length) := ⟨fun h0 => by
    rw [if_pos h0] at hW hN hL
    have := hle h0
    exact ⟨this.1, by omega, hW, hN, hL, by omega⟩⟩
  have HF : Keep (W1 ≠ 0 → W = W1 ∧ N = 0 ∧ L = [] ∧ N1 = 0) := ⟨fun h0 => by
    rw [if_neg h0] at hW hN hL
    exact ⟨hW, hN, hL, by have := (hsh.1 h0).2; omega⟩⟩
  have Hmm := Keep.mk hmm
  have Hm2 := Keep.mk hm2
  clear h hR ha hb hby hD hsh hle hby2 hDl hM hW hN hL hmm hm2
  by_cases hneg : most < 0
  · have HC : Keep (∀ w1, RS w x vB a 0 0 w1 → Calls Try.prog 35 #[ptr x, .int .u64 0] w1 (RfPost x vB W1 (a + N1) (.int .u64 X) w1)) := ⟨fun w1 hs => by
      have := hC w1 hs
      rw [show (mm : Int) = 0 by have := Hmm.out; omega] at this
      exact this⟩
    clear hC
    go_enter Try.func79, Try.ntmps79
    go_wp2_with (first | (refine wpList_new rfl 27 rfl _ Try.new27 ?_; refine Hid.out ?_))
    refine hid_in ?_
    generalize w.alloc (.cells #[.int .i64 0, .int .i64 0] 27) = w1 at *
    go_wp2_with fail
    refine (HC.out w1 HS.out).mono ?_
    rintro e w2 ⟨b, hE, rfl, hr, hg⟩
    have HS2 := Keep.mk (HS.out.turned hr hg)
    clear hr hg HS HC
    rcases hE with ⟨hW, rfl⟩ | ⟨hW, rfl⟩
    · subst hW
      obtain ⟨hX0, hXm, hWe, hNe, hLe, hN1⟩ := HZ.out rfl
      have hXw : IntKind.i64.wrap X = X := by rw [IntKind.wrap_i64]; omega
      have HNe := Keep.mk hNe
      have HXr := Keep.mk (And.intro hX0 hXm)
      have HRaw : Keep (∀ w4, RS w x vB (a + N1) 0 0 w4 → Calls Try.prog 9 #[ptr x, .int .i64 X] w4 (RfPostB x vB W (a + N) L w4)) := ⟨fun w4 hs => by
        have := xraw_good x vB l (a + N1) X w4 hs.rf (fun wx hg => HR.out wx (hs.gr.trans hg)) hN1 Hb.out (D.drop N1) (by rw [HD.out, List.drop_drop]) W hWe (nextN (D.drop N1) X) rfl
        rw [Nat.add_assoc, ← hNe, ← hLe] at this
        exact this⟩
      clear hX0 hXm hWe hNe hLe hN1 HZ HF
      go_wp2_with (first | (refine wpList_new rfl 27 rfl _ Try.new27 ?_; refine Hid.out ?_))
      refine hid_in ?_
      have HN := Keep.mk (Blk.new w2 27 #[.int .i64 0, .int .i64 0])
      have HA := Keep.mk (below_new w2 (.cells #[.int .i64 0, .int .i64 0] 27))
      generalize w2.alloc (.cells #[.int .i64 0, .int .i64 0] 27) = w3 at *
      have n0 : w3.cell? ⟨w2.heap.size, 0, none⟩ = some (.int .i64 0) := by rw [HN.out.cell]; rfl
      have n1 : w3.cell? ⟨w2.heap.size, 1, none⟩ = some (.int .i64 0) := by rw [HN.out.cell]; rfl
      have m0 := HN.out.frozen 0
      have m1 := HN.out.frozen 1
      go_wp2_with fail
      have HN4 := Keep.mk (show Blk ((w3.setCell ⟨w2.heap.size, 0, none⟩ (.int .i64 0)).setCell ⟨w2.heap.size, 1, none⟩ (.int .i64 0)) w2.heap.size 27 #[.int .i64 0, .int .i64 0] from (HN.out.set 0 _).set 1 _)
      have HB4 := Keep.mk (below_two HA.out (Nat.le_refl _) (.int .i64 0) (.int .i64 0))
      clear n0 n1 m0 m1 HN HA
      generalize (w3.setCell ⟨w2.heap.size, 0, none⟩ (.int .i64 0)).setCell ⟨w2.heap.size, 1, none⟩ (.int .i64 0) = w4 at *
      have HS4 := Keep.mk (HS2.out.later HB4.out)
      have n0 : w4.cell? ⟨w2.heap.size, 0, none⟩ = some (.int .i64 0) := by rw [HN4.out.cell]; rfl
      have n1 : w4.cell? ⟨w2.heap.size, 1, none⟩ = some (.int .i64 0) := by rw [HN4.out.cell]; rfl
      have d0 := HS4.out.d0
      have d1 := HS4.out.d1
      have e0 := HS4.out.cell.frozen 0
      have e1 := HS4.out.cell.frozen 1
      clear HB4 HN4 HS2 n0 n1 d0 d1 e0 e1
      go_wp2_with fail
      refine (HRaw.out w4 HS4.out).mono ?_
      rintro e w5 ⟨b, res, hE, rfl, hr, hg, hrow, hok⟩
      have hls : w.heap.size < w4.heap.size := HS4.out.cell.lt
      have HS5 := Keep.mk (HS4.out.turned hr hg)
      have HRo := Keep.mk (row_two (g := w.heap.size) hrow (fun e => by have := hok _ e; omega) (.int .i64 W) (.int .i64 b))
      have HOk : Keep (∀ k, res.ownBlock = some k → w.heap.size ≤ k) := ⟨fun k hk => by have := hok k hk; omega⟩
      have HE := Keep.mk hE
      clear hr hg hrow hok hE hls HS4 HRaw
      have d0 := HS5.out.d0
      have d1 := HS5.out.d1
      have e0 := HS5.out.cell.frozen 0
      have e1 := HS5.out.cell.frozen 1
      go_wp2
      have hf := HS5.out.fin (.int .i64 W) (.int .i64 b)
      exact bodyPost_ret (results_tmp_cell_row Try.results79 _ _ w.heap.size 27 _ (0, 0) _ _ rfl rfl hf.1 Try.underlying27 rfl Try.size27) rfl ⟨_, _, HE.out, rfl, hf.2.1, hf.2.2, HRo.out, HOk.out⟩
    · obtain ⟨rfl, rfl, rfl, rfl⟩ := HF.out hW
      have Hw0 := Keep.mk hW
      have hy1 : (W == 0) = false := by simpa using hW
      clear HZ HF hW
      simp only [Nat.add_zero] at HS2 ⊢
      go_wp2_with (first | (refine wpList_new rfl 27 rfl _ Try.new27 ?_; refine Hid.out ?_))
      refine hid_in ?_
      have HN := Keep.mk (Blk.new w2 27 #[.int .i64 0, .int .i64 0])
      have HA := Keep.mk (below_new w2 (.cells #[.int .i64 0, .int .i64 0] 27))
      generalize w2.alloc (.cells #[.int .i64 0, .int .i64 0] 27) = w3 at *
      have n0 : w3.cell? ⟨w2.heap.size, 0, none⟩ = some (.int .i64 0) := by rw [HN.out.cell]; rfl
      have n1 : w3.cell? ⟨w2.heap.size, 1, none⟩ = some (.int .i64 0) := by rw [HN.out.cell]; rfl
      have m0 := HN.out.frozen 0
      have m1 := HN.out.frozen 1
      go_wp2_with fail
      have HN4 := Keep.mk (show Blk ((w3.setCell ⟨w2.heap.size, 0, none⟩ (.int .i64 W)).setCell ⟨w2.heap.size, 1, none⟩ (.int .i64 (a : Int))) w2.heap.size 27 #[.int .i64 W, .int .i64 (a : Int)] from (HN.out.set 0 _).set 1 _)
      have HB4 := Keep.mk (below_two HA.out (Nat.le_refl _) (.int .i64 W) (.int .i64 (a : Int)))
      clear n0 n1 m0 m1 HN HA
      generalize (w3.setCell ⟨w2.heap.size, 0, none⟩ (.int .i64 W)).setCell ⟨w2.heap.size, 1, none⟩ (.int .i64 (a : Int)) = w4 at *
      have HS4 := Keep.mk (HS2.out.later HB4.out)
      have n0 : w4.cell? ⟨w2.heap.size, 0, none⟩ = some (.int .i64 W) := by rw [HN4.out.cell]; rfl
      have n1 : w4.cell? ⟨w2.heap.size, 1, none⟩ = some (.int .i64 (a : Int)) := by rw [HN4.out.cell]; rfl
      have d0 := HS4.out.d0
      have d1 := HS4.out.d1
      have e0 := HS4.out.cell.frozen 0
      have e1 := HS4.out.cell.frozen 1
      clear HB4 HN4 HS2
      go_region
      go_wp2
      have hf := HS4.out.fin (.int .i64 W) (.int .i64 (a : Int))
      exact bodyPost_ret (results_tmp_cell_row Try.results79 _ _ w.heap.size 27 _ (0, 0) _ _ rfl rfl hf.1.drew Try.underlying27 rfl Try.size27) rfl ⟨_, _, .inr ⟨Hw0.out, rfl⟩, rfl, (Blk.drew hf.2.1), hf.2.2.drew, .inl ⟨rfl, rfl⟩, fun k hk => by simp [Value.ownBlock] at hk⟩
  · have HC : Keep (∀ w1, RS w x vB a 0 0 w1 → Calls Try.prog 35 #[ptr x, .int .u64 most] w1 (RfPost x vB W1 (a + N1) (.int .u64 X) w1)) := ⟨fun w1 hs => by
      have := hC w1 hs
      rw [show (mm : Int) = most by have := Hmm.out; omega] at this
      exact this⟩
    have hwm : IntKind.u64.wrap most = most := by rw [IntKind.wrap_u64]; have := Hmm.out; have := Hm2.out; omega
    clear hC
    go_enter Try.func79, Try.ntmps79
    go_wp2_with (first | (refine wpList_new rfl 27 rfl _ Try.new27 ?_; refine Hid.out ?_))
    refine hid_in ?_
    generalize w.alloc (.cells #[.int .i64 0, .int .i64 0] 27) = w1 at *
    go_wp2_with fail
    refine (HC.out w1 HS.out).mono ?_
    rintro e w2 ⟨b, hE, rfl, hr, hg⟩
    have HS2 := Keep.mk (HS.out.turned hr hg)
    clear hr hg HS HC
    rcases hE with ⟨hW, rfl⟩ | ⟨hW, rfl⟩
    · subst hW
      obtain ⟨hX0, hXm, hWe, hNe, hLe, hN1⟩ := HZ.out rfl
      have hXw : IntKind.i64.wrap X = X := by rw [IntKind.wrap_i64]; omega
      have HNe := Keep.mk hNe
      have HXr := Keep.mk (And.intro hX0 hXm)
      have HRaw : Keep (∀ w4, RS w x vB (a + N1) 0 0 w4 → Calls Try.prog 9 #[ptr x, .int .i64 X] w4 (RfPostB x vB W (a + N) L w4)) := ⟨fun w4 hs => by
        have := xraw_good x vB l (a + N1) X w4 hs.rf (fun wx hg => HR.out wx (hs.gr.trans hg)) hN1 Hb.out (D.drop N1) (by rw [HD.out, List.drop_drop]) W hWe (nextN (D.drop N1) X) rfl
        rw [Nat.add_assoc, ← hNe, ← hLe] at this
        exact this⟩
      clear hX0 hXm hWe hNe hLe hN1 HZ HF
      go_wp2_with (first | (refine wpList_new rfl 27 rfl _ Try.new27 ?_; refine Hid.out ?_))
      refine hid_in ?_
      have HN := Keep.mk (Blk.new w2 27 #[.int .i64 0, .int .i64 0])
      have HA := Keep.mk (below_new w2 (.cells #[.int .i64 0, .int .i64 0] 27))
      generalize w2.alloc (.cells #[.int .i64 0, .int .i64 0] 27) = w3 at *
      have n0 : w3.cell? ⟨w2.heap.size, 0, none⟩ = some (.int .i64 0) := by rw [HN.out.cell]; rfl
      have n1 : w3.cell? ⟨w2.heap.size, 1, none⟩ = some (.int .i64 0) := by rw [HN.out.cell]; rfl
      have m0 := HN.out.frozen 0
      have m1 := HN.out.frozen 1
      go_wp2_with fail
      have HN4 := Keep.mk (show Blk ((w3.setCell ⟨w2.heap.size, 0, none⟩ (.int .i64 0)).setCell ⟨w2.heap.size, 1, none⟩ (.int .i64 0)) w2.heap.size 27 #[.int .i64 0, .int .i64 0] from (HN.out.set 0 _).set 1 _)
      have HB4 := Keep.mk (below_two HA.out (Nat.le_refl _) (.int .i64 0) (.int .i64 0))
      clear n0 n1 m0 m1 HN HA
      generalize (w3.setCell ⟨w2.heap.size, 0, none⟩ (.int .i64 0)).setCell ⟨w2.heap.size, 1, none⟩ (.int .i64 0) = w4 at *
      have HS4 := Keep.mk (HS2.out.later HB4.out)
      have n0 : w4.cell? ⟨w2.heap.size, 0, none⟩ = some (.int .i64 0) := by rw [HN4.out.cell]; rfl
      have n1 : w4.cell? ⟨w2.heap.size, 1, none⟩ = some (.int .i64 0) := by rw [HN4.out.cell]; rfl
      have d0 := HS4.out.d0
      have d1 := HS4.out.d1
      have e0 := HS4.out.cell.frozen 0
      have e1 := HS4.out.cell.frozen 1
      clear HB4 HN4 HS2 n0 n1 d0 d1 e0 e1
      go_wp2_with fail
      refine (HRaw.out w4 HS4.out).mono ?_
      rintro e w5 ⟨b, res, hE, rfl, hr, hg, hrow, hok⟩
      have hls : w.heap.size < w4.heap.size := HS4.out.cell.lt
      have HS5 := Keep.mk (HS4.out.turned hr hg)
      have HRo := Keep.mk (row_two (g := w.heap.size) hrow (fun e => by have := hok _ e; omega) (.int .i64 W) (.int .i64 b))
      have HOk : Keep (∀ k, res.ownBlock = some k → w.heap.size ≤ k) := ⟨fun k hk => by have := hok k hk; omega⟩
      have HE := Keep.mk hE
      clear hr hg hrow hok hE hls HS4 HRaw
      have d0 := HS5.out.d0
      have d1 := HS5.out.d1
      have e0 := HS5.out.cell.frozen 0
      have e1 := HS5.out.cell.frozen 1
      go_wp2
      have hf := HS5.out.fin (.int .i64 W) (.int .i64 b)
      exact bodyPost_ret (results_tmp_cell_row Try.results79 _ _ w.heap.size 27 _ (0, 0) _ _ rfl rfl hf.1 Try.underlying27 rfl Try.size27) rfl ⟨_, _, HE.out, rfl, hf.2.1, hf.2.2, HRo.out, HOk.out⟩
    · obtain ⟨rfl, rfl, rfl, rfl⟩ := HF.out hW
      have Hw0 := Keep.mk hW
      have hy1 : (W == 0) = false := by simpa using hW
      clear HZ HF hW
      simp only [Nat.add_zero] at HS2 ⊢
      go_wp2_with (first | (refine wpList_new rfl 27 rfl _ Try.new27 ?_; refine Hid.out ?_))
      refine hid_in ?_
      have HN := Keep.mk (Blk.new w2 27 #[.int .i64 0, .int .i64 0])
      have HA := Keep.mk (below_new w2 (.cells #[.int .i64 0, .int .i64 0] 27))
      generalize w2.alloc (.cells #[.int .i64 0, .int .i64 0] 27) = w3 at *
      have n0 : w3.cell? ⟨w2.heap.size, 0, none⟩ = some (.int .i64 0) := by rw [HN.out.cell]; rfl
      have n1 : w3.cell? ⟨w2.heap.size, 1, none⟩ = some (.int .i64 0) := by rw [HN.out.cell]; rfl
      have m0 := HN.out.frozen 0
      have m1 := HN.out.frozen 1
      go_wp2_with fail
      have HN4 := Keep.mk (show Blk ((w3.setCell ⟨w2.heap.size, 0, none⟩ (.int .i64 W)).setCell ⟨w2.heap.size, 1, none⟩ (.int .i64 (a : Int))) w2.heap.size 27 #[.int .i64 W, .int .i64 (a : Int)] from (HN.out.set 0 _).set 1 _)
      have HB4 := Keep.mk (below_two HA.out (Nat.le_refl _) (.int .i64 W) (.int .i64 (a : Int)))
      clear n0 n1 m0 m1 HN HA
      generalize (w3.setCell ⟨w2.heap.size, 0, none⟩ (.int .i64 W)).setCell ⟨w2.heap.size, 1, none⟩ (.int .i64 (a : Int)) = w4 at *
      have HS4 := Keep.mk (HS2.out.later HB4.out)
      have n0 : w4.cell? ⟨w2.heap.size, 0, none⟩ = some (.int .i64 W) := by rw [HN4.out.cell]; rfl
      have n1 : w4.cell? ⟨w2.heap.size, 1, none⟩ = some (.int .i64 (a : Int)) := by rw [HN4.out.cell]; rfl
      have d0 := HS4.out.d0
      have d1 := HS4.out.d1
      have e0 := HS4.out.cell.frozen 0
      have e1 := HS4.out.cell.frozen 1
      clear HB4 HN4 HS2
      go_region
      go_wp2
      have hf := HS4.out.fin (.int .i64 W) (.int .i64 (a : Int))
      exact bodyPost_ret (results_tmp_cell_row Try.results79 _ _ w.heap.size 27 _ (0, 0) _ _ rfl rfl hf.1.drew Try.underlying27 rfl Try.size27) rfl ⟨_, _, .inr ⟨Hw0.out, rfl⟩, rfl, (Blk.drew hf.2.1), hf.2.2.drew, .inl ⟨rfl, rfl⟩, fun k hk => by simp [Value.ownBlock] at hk⟩

set_option maxRecDepth 8000 in
set_option maxHeartbeats 4000000 in
theorem xtext_good (x : Nat) (vB : Value) (l : List Int) (a : Nat) (w : World) (h : RfAt w x vB a 0 0) (hR : ∀ wx, (Grown w wx fun k => k = x) → RowAt wx vB l) (ha : a ≤ l.length) (hb : l.length ≤ 140737488355328) (hby : Byts l) (D : List Int) (hD : D = l.drop a) (most : Int) (mm : Nat) (hmm : (mm : Int) = max most 0) (hm2 : mm ≤ 9223372036854775807) (W : Int) (hW : W = (byt D (mm : Int)).1) (N : Nat) (hN : N = (byt D (mm : Int)).2.1) (L : List Int) (hL : L = (byt D (mm : Int)).2.2) (st : ByteArray) (hst : st = strOfNums L) :
    Calls Try.prog 55 #[ptr x, .int .i64 most] w (RfPost x vB W (a + N) (.string st) w) := by
  have HS := Keep.mk (RS.start h)
  have HC : Keep (∀ w1, RS w x vB a 0 0 w1 → Calls Try.prog 79 #[ptr x, .int .i64 most] w1 (RfPostB x vB W (a + N) L w1)) := ⟨fun w1 hs => xbytes_good x vB l a w1 hs.rf (fun wx hg => hR wx (hs.gr.trans hg)) ha hb hby D hD most mm hmm hm2 W hW N hN L hL⟩
  have Hst := Keep.mk hst
  clear h hR ha hb hby hD hmm hm2 hW hN hL hst
  go_enter Try.func55, Try.ntmps55
  go_wp2_with (first | (refine wpList_new rfl 27 rfl _ Try.new27 ?_; refine Hid.out ?_))
  refine hid_in ?_
  generalize w.alloc (.cells #[.int .i64 0, .int .i64 0] 27) = w1 at *
  go_wp2_with fail
  refine (HC.out w1 HS.out).mono ?_
  rintro e w2 ⟨b, res, hE, rfl, hr, hg, hrow, hok⟩
  have HS2 := Keep.mk (HS.out.turned hr hg)
  have HRo := Keep.mk hrow
  have HE := Keep.mk hE
  clear hr hg HS HC hE hrow hok
  go_wp2_with (first | (refine wpList_new rfl 27 rfl _ Try.new27 ?_; refine Hid.out ?_))
  refine hid_in ?_
  have HN := Keep.mk (Blk.new w2 27 #[.int .i64 0, .int .i64 0])
  have HA := Keep.mk (below_new w2 (.cells #[.int .i64 0, .int .i64 0] 27))
  generalize w2.alloc (.cells #[.int .i64 0, .int .i64 0] 27) = w3 at *
  have n0 : w3.cell? ⟨w2.heap.size, 0, none⟩ = some (.int .i64 0) := by rw [HN.out.cell]; rfl
  have n1 : w3.cell? ⟨w2.heap.size, 1, none⟩ = some (.int .i64 0) := by rw [HN.out.cell]; rfl
  have m0 := HN.out.frozen 0
  have m1 := HN.out.frozen 1
  go_wp2_with fail
  have HN4 := Keep.mk (show Blk ((w3.setCell ⟨w2.heap.size, 0, none⟩ (.int .i64 W)).setCell ⟨w2.heap.size, 1, none⟩ (.int .i64 b)) w2.heap.size 27 #[.int .i64 W, .int .i64 b] from (HN.out.set 0 _).set 1 _)
  have HB4 := Keep.mk (below_two HA.out (Nat.le_refl _) (.int .i64 W) (.int .i64 b))
  clear n0 n1 m0 m1 HN HA
  generalize (w3.setCell ⟨w2.heap.size, 0, none⟩ (.int .i64 W)).setCell ⟨w2.heap.size, 1, none⟩ (.int .i64 b) = w4 at *
  have HS4 := Keep.mk (HS2.out.later HB4.out)
  have n0 : w4.cell? ⟨w2.heap.size, 0, none⟩ = some (.int .i64 W) := by rw [HN4.out.cell]; rfl
  have n1 : w4.cell? ⟨w2.heap.size, 1, none⟩ = some (.int .i64 b) := by rw [HN4.out.cell]; rfl
  have d0 := HS4.out.d0
  have d1 := HS4.out.d1
  have e0 := HS4.out.cell.frozen 0
  have e1 := HS4.out.cell.frozen 1
  have hcv : (convert 22 9 res).run Try.prog w4.drew = .ok (.string st) w4.drew := by rw [Hst.out]; exact conv_row _ _ _ (HRo.out.below HB4.out.drew)
  clear HB4 HN4 HS2
  go_region
  go_wp2
  have hf := HS4.out.fin (.int .i64 W) (.int .i64 b)
  exact bodyPost_ret (results_tmp_cell_row Try.results55 _ _ w.heap.size 27 _ (0, 0) _ _ rfl rfl hf.1.drew Try.underlying27 rfl Try.size27) rfl ⟨_, HE.out, rfl, (Blk.drew hf.2.1), hf.2.2.drew⟩

set_option maxRecDepth 8000 in
set_option maxHeartbeats 4000000 in
theorem xtext_bad (x : Nat) (vB : Value) (a : Nat) (why b most : Int) (w : World) (h : RfAt w x vB a why b) (hw : why ≠ 0) (hm1 : -9223372036854775808 ≤ most) (hm2 : most ≤ 9223372036854775807) :
    Calls Try.prog 55 #[ptr x, .int .i64 most] w (RfStuck why b (.string ByteArray.empty) w) := by
  have HS := Keep.mk (RS.start h)
  have HB := Keep.mk (below_new w (.cells #[.int .i64 0, .int .i64 0] 27))
  have HC : Keep (∀ w1, RS w x vB a why b w1 → Calls Try.prog 79 #[ptr x, .int .i64 most] w1 (RfStuck why b (.slice none 0 0) w1)) := ⟨fun w1 hs => xbytes_bad x vB a why b most w1 hs.rf hw hm1 hm2⟩
  clear h hw hm1 hm2
  go_enter Try.func55, Try.ntmps55
  go_wp2_with (first | (refine wpList_new rfl 27 rfl _ Try.new27 ?_; refine Hid.out ?_))
  refine hid_in ?_
  generalize w.alloc (.cells #[.int .i64 0, .int .i64 0] 27) = w1 at *
  go_wp2_with fail
  refine (HC.out w1 HS.out).mono ?_
  rintro e w2 ⟨rfl, hb2⟩
  have HS2 := Keep.mk (HS.out.later hb2)
  have HB2 := Keep.mk (HB.out.trans (hb2.mono HB.out.size))
  clear hb2 HS HB HC
  go_wp2_with (first | (refine wpList_new rfl 27 rfl _ Try.new27 ?_; refine Hid.out ?_))
  refine hid_in ?_
  have HN := Keep.mk (Blk.new w2 27 #[.int .i64 0, .int .i64 0])
  have HA := Keep.mk (below_new w2 (.cells #[.int .i64 0, .int .i64 0] 27))
  generalize w2.alloc (.cells #[.int .i64 0, .int .i64 0] 27) = w3 at *
  have n0 : w3.cell? ⟨w2.heap.size, 0, none⟩ = some (.int .i64 0) := by rw [HN.out.cell]; rfl
  have n1 : w3.cell? ⟨w2.heap.size, 1, none⟩ = some (.int .i64 0) := by rw [HN.out.cell]; rfl
  have m0 := HN.out.frozen 0
  have m1 := HN.out.frozen 1
  go_wp2_with fail
  have HN4 := Keep.mk (show Blk ((w3.setCell ⟨w2.heap.size, 0, none⟩ (.int .i64 why)).setCell ⟨w2.heap.size, 1, none⟩ (.int .i64 b)) w2.heap.size 27 #[.int .i64 why, .int .i64 b] from (HN.out.set 0 _).set 1 _)
  have HB4 := Keep.mk (below_two HA.out (Nat.le_refl _) (.int .i64 why) (.int .i64 b))
  clear n0 n1 m0 m1 HN HA
  generalize (w3.setCell ⟨w2.heap.size, 0, none⟩ (.int .i64 why)).setCell ⟨w2.heap.size, 1, none⟩ (.int .i64 b) = w4 at *
  have HS4 := Keep.mk (HS2.out.later HB4.out)
  have HB5 := Keep.mk (HB2.out.trans (HB4.out.mono HB2.out.size))
  have n0 : w4.cell? ⟨w2.heap.size, 0, none⟩ = some (.int .i64 why) := by rw [HN4.out.cell]; rfl
  have n1 : w4.cell? ⟨w2.heap.size, 1, none⟩ = some (.int .i64 b) := by rw [HN4.out.cell]; rfl
  have d0 := HS4.out.d0
  have d1 := HS4.out.d1
  have e0 := HS4.out.cell.frozen 0
  have e1 := HS4.out.cell.frozen 1
  have hcv : (convert 22 9 (.slice none 0 0)).run Try.prog w4.drew = .ok (.string ByteArray.empty) w4.drew := conv_row _ [] _ (.inl ⟨rfl, rfl⟩)
  clear HB4 HN4 HS2 HB2
  go_region
  go_wp2
  exact bodyPost_ret (results_tmp_cell_row Try.results55 _ _ w.heap.size 27 _ (0, 0) _ _ rfl rfl (HS4.out.fin (.int .i64 why) (.int .i64 b)).1.drew Try.underlying27 rfl Try.size27) rfl ⟨rfl, (below_two HB5.out (Nat.le_refl _) _ _).drew⟩

theorem build84 : (#[.int .u8 0, .int .u8 0, .int .u8 0, .int .u8 0, .int .u8 0, .int .u8 0, .int .u8 0, .int .u8 0, .int .u8 0, .int .u8 0, .int .u8 0, .int .u8 0, .int .u8 0, .int .u8 0, .int .u8 0, .int .u8 0, .int .u8 0, .int .u8 0, .int .u8 0, .int .u8 0, .int .u8 0, .int .u8 0, .int .u8 0, .int .u8 0, .int .u8 0, .int .u8 0, .int .u8 0, .int .u8 0, .int .u8 0, .int .u8 0, .int .u8 0, .int .u8 0] : Array Value) = bytesA 32 fun _ => 0 := by kernel_rfl
theorem copy_next (L : List Int) (t : Nat) : ∀ i, (upd (fun i => if i < t then L.getD i 0 else 0) t (L.getD t 0)) i = (fun i => if i < t + 1 then L.getD i 0 else 0) i := by
  intro i
  unfold upd
  by_cases h : i = t
  · subst h; simp
  · simp only [if_neg h]
    by_cases h2 : i < t
    · rw [if_pos h2, if_pos (by omega)]
    · rw [if_neg h2, if_neg (by omega)]

set_option maxRecDepth 8000 in
set_option maxHeartbeats 1000000 in
theorem xhash_core (x : Nat) (w : World) (W b : Int) (L : List Int) (R : World → Prop)
    (hC : ∀ wB, Below w.heap.size w wB → Calls Try.prog 9 #[ptr x, .int .i64 32] wB (fun e w' => ∃ res, e = .returned (.tuple #[res, .agg #[.int .i64 W, .int .i64 b]]) ∧ R w' ∧ RowAt w' res L ∧ (∀ k, res.ownBlock = some k → wB.heap.size ≤ k) ∧ Grown wB w' fun k => k = x))
    (hRk : ∀ wa wb, R wa → (Grown wa wb fun k => w.heap.size ≤ k) → R wb) (hx : x < w.heap.size) (hL : L.length ≤ 32) :
    Calls Try.prog 57 #[ptr x] w (fun e w' => e = .returned (.tuple #[.agg (bytesA 32 fun i => L.getD i 0), .agg #[.int .i64 W, .int .i64 b]]) ∧ R w' ∧ Grown w w' fun k => k = x) := by
  have HC := Keep.mk hC
  have HK := Keep.mk hRk
  have Hx := Keep.mk hx
  have HL := Keep.mk hL
  have hLi : (L.length : Int) ≤ 32 := by omega
  obtain ⟨n, hn⟩ : ∃ n, Keep (n = w.heap.size) := ⟨_, ⟨rfl⟩⟩
  have hA : Blk (((w.alloc (.cells (bytesA 32 fun _ => 0) 55)).alloc (.cells #[.int .i64 0, .int .i64 0] 27)).alloc (.cells (bytesA 32 fun _ => 0) 55)) w.heap.size 55 (bytesA 32 fun _ => 0) := ((Blk.new w 55 _).alloc _).alloc _
  have hB : Blk (((w.alloc (.cells (bytesA 32 fun _ => 0) 55)).alloc (.cells #[.int .i64 0, .int .i64 0] 27)).alloc (.cells (bytesA 32 fun _ => 0) 55)) (w.heap.size + 1) 27 #[.int .i64 0, .int .i64 0] := by
    have h := (Blk.new (w.alloc (.cells (bytesA 32 fun _ => 0) 55)) 27 #[.int .i64 0, .int .i64 0]).alloc (.cells (bytesA 32 fun _ => 0) 55)
    simp only [World.size_alloc] at h
    exact h
  have hH : Blk (((w.alloc (.cells (bytesA 32 fun _ => 0) 55)).alloc (.cells #[.int .i64 0, .int .i64 0] 27)).alloc (.cells (bytesA 32 fun _ => 0) 55)) (w.heap.size + 2) 55 (bytesA 32 fun _ => 0) := by
    have h := Blk.new ((w.alloc (.cells (bytesA 32 fun _ => 0) 55)).alloc (.cells #[.int .i64 0, .int .i64 0] 27)) 55 (bytesA 32 fun _ => 0)
    simp only [World.size_alloc] at h
    exact h
  have hBl : Below w.heap.size w (((w.alloc (.cells (bytesA 32 fun _ => 0) 55)).alloc (.cells #[.int .i64 0, .int .i64 0] 27)).alloc (.cells (bytesA 32 fun _ => 0) 55)) := (((Below.refl _ _).alloc (Nat.le_refl _) _).alloc (by simp) _).alloc (by simp; omega) _
  have hsz : (((w.alloc (.cells (bytesA 32 fun _ => 0) 55)).alloc (.cells #[.int .i64 0, .int .i64 0] 27)).alloc (.cells (bytesA 32 fun _ => 0) 55)).heap.size = w.heap.size + 3 := by simp
  have HH := Keep.mk hH
  have HA := Keep.mk hA
  have HB := Keep.mk hB
  have HBl := Keep.mk hBl
  have Hsz := Keep.mk hsz
  clear hC hRk hx hL hA hB hH hBl hsz
  go_enter Try.func57, Try.ntmps57
  go_wp2_with (first | (refine wpList_new rfl 55 rfl _ Try.new55 ?_; refine Hid.out ?_) | (refine wpList_new rfl 27 rfl _ Try.new27 ?_; refine Hid.out ?_))
  refine hid_in ?_
  go_wp2_with (first | (refine wpList_new rfl 55 rfl _ Try.new55 ?_; refine Hid.out ?_) | (refine wpList_new rfl 27 rfl _ Try.new27 ?_; refine Hid.out ?_))
  refine hid_in ?_
  refine wpList_store_row rfl 55 (.tmp 4) (.tmp 8) rfl (w.heap.size + 1 + 1) (bytesA 32 fun _ => 0) rfl (congrArg Value.agg build84) 55 (bytesA 32 fun _ => 0) HH.out (Try.size55B _) (bytesA_sizes _ _ _) (bytesA_one _ _) ?_
  have HH2 : Keep (Blk ((((w.alloc (.cells (bytesA 32 fun _ => 0) 55)).alloc (.cells #[.int .i64 0, .int .i64 0] 27)).alloc (.cells (bytesA 32 fun _ => 0) 55)).setRow (w.heap.size + 1 + 1) (bytesA 32 fun _ => 0)) (w.heap.size + 1 + 1) 55 (bytesA 32 fun _ => 0)) := ⟨HH.out.setRow (bytesA 32 fun _ => 0)⟩
  have HA2 := Keep.mk (HA.out.setRow_ne (b' := w.heap.size + 1 + 1) (by omega) (bytesA 32 fun _ => 0))
  have HB2 := Keep.mk (HB.out.setRow_ne (b' := w.heap.size + 1 + 1) (by omega) (bytesA 32 fun _ => 0))
  have HBl2 := Keep.mk (below_setRow (b := w.heap.size + 1 + 1) HBl.out (by omega) (bytesA 32 fun _ => 0))
  have Hsz2 : Keep (w.heap.size + 3 ≤ ((((w.alloc (.cells (bytesA 32 fun _ => 0) 55)).alloc (.cells #[.int .i64 0, .int .i64 0] 27)).alloc (.cells (bytesA 32 fun _ => 0) 55)).setRow (w.heap.size + 1 + 1) (bytesA 32 fun _ => 0)).heap.size) := ⟨by
    have := (Grown.setRow (((w.alloc (.cells (bytesA 32 fun _ => 0) 55)).alloc (.cells #[.int .i64 0, .int .i64 0] 27)).alloc (.cells (bytesA 32 fun _ => 0) 55)) (w.heap.size + 1 + 1) (bytesA 32 fun _ => 0) (S := fun _ => True) fun _ => trivial).size
    have := Hsz.out
    omega⟩
  clear HH HA HB HBl Hsz
  generalize (((w.alloc (.cells (bytesA 32 fun _ => 0) 55)).alloc (.cells #[.int .i64 0, .int .i64 0] 27)).alloc (.cells (bytesA 32 fun _ => 0) 55)).setRow (w.heap.size + 1 + 1) (bytesA 32 fun _ => 0) = wB at *
  simp only [Act.put]
  go_wp2_with fail
  refine (HC.out wB HBl2.out).mono ?_
  rintro e w5 ⟨res, rfl, hr, hrow, hok, hg⟩
  obtain ⟨ra, rc, rfl⟩ := row_form hrow
  have HA5 := Keep.mk (hg.blk HA2.out (by have := Hx.out; omega))
  have HB5 := Keep.mk (hg.blk HB2.out (by have := Hx.out; omega))
  have HH5 := Keep.mk (hg.blk HH2.out (by have := Hx.out; omega))
  have HG5 : Keep (Grown w w5 fun k => k = x) := ⟨(Grown.below HBl2.out).trans hg⟩
  have HR5 := Keep.mk hr
  have HRow := Keep.mk hrow
  have HOk : Keep (∀ k, (Value.slice ra L.length rc).ownBlock = some k → w.heap.size + 3 ≤ k) := ⟨fun k hk => Nat.le_trans Hsz2.out (hok k hk)⟩
  have Hg6 : Keep (w.heap.size + 3 ≤ w5.heap.size) := ⟨Nat.le_trans Hsz2.out hg.size⟩
  clear hr hrow hok hg HA2 HB2 HH2 HBl2 Hsz2 HC
  go_wp2_with (first | (refine wpList_new rfl 27 rfl _ Try.new27 ?_; refine Hid.out ?_))
  refine hid_in ?_
  have HN := Keep.mk (Blk.new w5 27 #[.int .i64 0, .int .i64 0])
  have HAl := Keep.mk (below_new w5 (.cells #[.int .i64 0, .int .i64 0] 27))
  generalize w5.alloc (.cells #[.int .i64 0, .int .i64 0] 27) = w6 at *
  have n0 : w6.cell? ⟨w5.heap.size, 0, none⟩ = some (.int .i64 0) := by rw [HN.out.cell]; rfl
  have n1 : w6.cell? ⟨w5.heap.size, 1, none⟩ = some (.int .i64 0) := by rw [HN.out.cell]; rfl
  have m0 := HN.out.frozen 0
  have m1 := HN.out.frozen 1
  go_wp2_with fail
  have HN4 := Keep.mk (show Blk ((w6.setCell ⟨w5.heap.size, 0, none⟩ (.int .i64 W)).setCell ⟨w5.heap.size, 1, none⟩ (.int .i64 b)) w5.heap.size 27 #[.int .i64 W, .int .i64 b] from (HN.out.set 0 _).set 1 _)
  have HB4 := Keep.mk (below_two HAl.out (Nat.le_refl _) (.int .i64 W) (.int .i64 b))
  clear n0 n1 m0 m1 HN HAl
  generalize (w6.setCell ⟨w5.heap.size, 0, none⟩ (.int .i64 W)).setCell ⟨w5.heap.size, 1, none⟩ (.int .i64 b) = w7 at *
  have HA7 := Keep.mk (HA5.out.below HB4.out HA5.out.lt)
  have HB7 := Keep.mk (HB5.out.below HB4.out HB5.out.lt)
  have HH7 := Keep.mk (HH5.out.below HB4.out HH5.out.lt)
  have HG7 : Keep (Grown w w7 fun k => k = x) := ⟨HG5.out.trans (Grown.below HB4.out)⟩
  have HR7 : Keep (R w7) := ⟨HK.out _ _ HR5.out (Grown.below HB4.out)⟩
  have HRow7 := Keep.mk (HRow.out.below HB4.out)
  obtain ⟨g6, hg6⟩ : ∃ g6, Keep (g6 = w5.heap.size) := ⟨_, ⟨rfl⟩⟩
  rw [← hg6.out] at HN4 Hg6 ⊢
  clear HA5 HB5 HH5 HG5 HR5 HRow HB4 hg6
  go_loopw [7] (fun i wr => ∃ t : Nat, t ≤ L.length ∧ i = .int .i64 (t : Int) ∧ Blk wr (w.heap.size + 1 + 1) 55 (bytesA 32 fun i => if i < t then L.getD i 0 else 0) ∧ Grown w7 wr (fun k => k = w.heap.size + 1 + 1)) (fun i _ => L.length - (intOf i).toNat)
  case atStart => exact ⟨0, by omega, rfl, by rw [show (fun i => if i < 0 then L.getD i 0 else 0) = (fun _ => (0 : Int)) from funext fun i => by simp]; exact HH7.out, Grown.refl _ _⟩
  case round =>
    obtain ⟨t, ht, rfl, hH, hG⟩ := hrel
    have HH9 := Keep.mk hH
    have HG9 := Keep.mk hG
    by_cases hlt : t < L.length
    · have hlt' : (t : Int) < (L.length : Int) := by omega
      have hrw : RowAt wr (Value.slice ra L.length rc) L := HRow7.out.grown hG (fun k hk _ e => by have := HOk.out k hk; omega)
      obtain ⟨gb, go, rfl, hc⟩ : ∃ gb go, ra = some ⟨gb, go, none⟩ ∧ wr.cell? ⟨gb, go + t, none⟩ = some (.int .u8 (L.getD t 0)) := by
        rcases hrw with ⟨_, e⟩ | ⟨_, _, _, e⟩ | ⟨g, o, _, e, _, h3⟩
        · have : L.length = 0 := by rw [e]; rfl
          omega
        · have : L.length = 0 := by rw [e]; rfl
          omega
        · injection e with e1 e2
          exact ⟨g, o, e1, h3 t hlt⟩
      have d0 : wr.cell? ⟨w.heap.size + 1 + 1, t, none⟩ = some (.int .u8 (if t < t then L.getD t 0 else 0)) := by rw [hH.cell, bytesA_get _ _ _ (by have := HL.out; omega)]
      rw [if_neg (Nat.lt_irrefl t)] at d0
      have e0 := hH.frozen t
      have ht32 : (t : Int) < 32 := by omega
      obtain ⟨cv, hcv⟩ : ∃ cv, Keep (cv = L.getD t 0) := ⟨_, ⟨rfl⟩⟩
      rw [← hcv.out] at hc
      clear hH hG hrw
      go_wp2
      go_roundw
      case rel =>
        refine ⟨t + 1, by omega, by go_num, ?_, HG9.out.trans (Grown.setCell wr (w.heap.size + 1 + 1) t _ fun _ => rfl)⟩
        have := HH9.out.set t (.int .u8 cv)
        rw [bytesA_set, hcv.out] at this
        rw [hcv.out, ← show bytesA 32 (upd (fun i => if i < t then L.getD i 0 else 0) t (L.getD t 0)) = bytesA 32 (fun i => if i < t + 1 then L.getD i 0 else 0) from bytesA_congr fun i _ => copy_next L t i]
        exact this
      case measure => simp only [intOf]; omega
    · obtain rfl : t = L.length := by omega
      have hlt' : ¬ ((L.length : Int) < (L.length : Int)) := by omega
      have HA9 := Keep.mk (hG.blk HA7.out (by omega))
      have HB9 := Keep.mk (hG.blk HB7.out (by omega))
      have HC9 := Keep.mk (hG.blk HN4.out (by have := Hg6.out; omega))
      obtain ⟨c, hcd⟩ : ∃ c : Nat → Int, Keep (c = fun i => if i < L.length then L.getD i 0 else 0) := ⟨_, ⟨rfl⟩⟩
      rw [← hcd.out] at HH9
      obtain ⟨ca, hca⟩ : ∃ ca, Keep (ca = bytesA 32 c) := ⟨_, ⟨rfl⟩⟩
      have Hca1 : Keep ((Try.prog.info? 55).map (·.size) = some ca.size) := ⟨by rw [hca.out]; exact Try.size55B c⟩
      have Hca2 : Keep ((bytesA 32 fun _ => 0).size = ca.size) := ⟨by rw [hca.out]; exact bytesA_sizes _ _ _⟩
      have Hca3 : Keep (ca.all (·.oneCell') = true) := ⟨by rw [hca.out]; exact bytesA_one _ _⟩
      rw [← hca.out] at HH9
      have hi84 : (Try.prog.info? 55).map (·.size) = some ca.toList.length := by rw [Array.length_toList]; exact Hca1.out
      clear hH hG
      go_wp2_with fail
      refine wp_region_held_drew (S := fun wx => wx.rangeAt (w.heap.size + 1 + 1) 0 ca.toList ∧ wx.rangeAt g6 0 [.int .i64 W, .int .i64 b]) (by kernel_rfl) ⟨blk_range HH9.out.drew, blk_range HC9.out.drew⟩ (fun hHeld => ?_)
      refine wpAnyH_take (i := 0) (oi := ⟨some 26, Op.load 55 (Operand.tmp 4), 55, _, _, none⟩) (v := .agg ca.toList.toArray) rfl (by kernel_rfl) (by kernel_rfl) (by kernel_rfl) (fun _ _ _ h => h) (yieldsIf_load_mid (by rfl) 55 (.tmp 4) rfl (w.heap.size + 1 + 1) 0 rfl ca.toList _ (fun w hS => hS.1) Try.underlying55 rfl hi84) hHeld ?_
      simp only [Act.put, List.setIfInBounds_toArray, List.set_cons_zero, List.set_cons_succ]
      simp only [Array.toArray_toList]
      refine wpAnyH_take (i := 1) (oi := ⟨some 27, Op.load 27 (Operand.tmp 6), 27, _, _, none⟩) (v := .agg [.int .i64 W, .int .i64 b].toArray) rfl (by kernel_rfl) (by kernel_rfl) (by kernel_rfl) (fun _ _ _ h => h) (yieldsIf_load_mid (by rfl) 27 (.tmp 6) rfl g6 0 rfl [.int .i64 W, .int .i64 b] _ (fun w hS => hS.2) Try.underlying27 rfl Try.size27) hHeld ?_
      simp only [Act.put, List.setIfInBounds_toArray, List.set_cons_zero, List.set_cons_succ]
      refine wpAnyH_ready (rs := [2]) (by kernel_rfl) (by simp) ?_
      refine AllReadyH.cons (o := ⟨none, Op.store 55 (Operand.tmp 2) (Operand.tmp 26), 0, _, _, none⟩) rfl (fun K hK => ?_) AllReadyH.nil
      rw [if_pos (by rfl)]
      refine wp_store_row 55 (.tmp 2) (.tmp 26) rfl w.heap.size ca (by simp [Act.eval]) (by simp [Act.eval]) 55 (bytesA 32 fun _ => 0) HA9.out.drew Hca1.out Hca2.out Hca3.out ?_
      refine hK.out _ _ ⟨blk_range (HH9.out.drew.setRow_ne (by omega) _), blk_range (HC9.out.drew.setRow_ne (by have := Hg6.out; omega) _)⟩ fun hHeld5 => ?_
      clear hK
      simp only [Act.put]
      refine wpAnyH_ready (rs := [3]) (by kernel_rfl) (by simp) ?_
      refine AllReadyH.cons (o := ⟨none, Op.store 27 (Operand.tmp 3) (Operand.tmp 27), 0, _, _, none⟩) rfl (fun K hK => ?_) AllReadyH.nil
      rw [if_pos (by rfl)]
      refine wp_store_row 27 (.tmp 3) (.tmp 27) rfl (w.heap.size + 1) #[.int .i64 W, .int .i64 b] (by simp [Act.eval]) (by simp [Act.eval]) 27 #[.int .i64 0, .int .i64 0] (HB9.out.drew.setRow_ne (by omega) _) Try.size27 rfl (all_oneCell_toArray (cs := [.int .i64 W, .int .i64 b]) (fun v hv => by simp at hv; rcases hv with rfl | rfl <;> rfl)) ?_
      refine hK.out _ _ ⟨blk_range ((HH9.out.drew.setRow_ne (by omega) _).setRow_ne (by omega) _), blk_range ((HC9.out.drew.setRow_ne (by have := Hg6.out; omega) _).setRow_ne (by have := Hg6.out; omega) _)⟩ fun hHeld6 => ?_
      clear hK
      refine wpAnyH_done (by kernel_rfl) ?_ _
      go_wp2
      have hfin := bytesA_congr (n := 32) (c := c) (d := fun i => L.getD i 0) (fun i _ => by
        rw [hcd.out]
        by_cases hi : i < L.length
        · simp only [if_pos hi]
        · simp only [if_neg hi]
          rw [List.getD_eq_getElem?_getD, List.getElem?_eq_none (by omega)]; rfl)
      have hgf : Grown wr ((wr.drew.setRow w.heap.size ca).setRow (w.heap.size + 1) #[.int .i64 W, .int .i64 b]) (fun k => w.heap.size ≤ k) := ((Grown.refl wr _).drew.trans (Grown.setRow _ _ _ fun _ => Nat.le_refl _)).trans (Grown.setRow _ _ _ fun _ => Nat.le_succ _)
      refine bodyPost_ret (results_cell_cell_row Try.results57 _ _ w.heap.size (w.heap.size + 1) 55 27 _ _ (0, 0) (0, 0) _ _ rfl rfl ((HA9.out.drew.setRow _).setRow_ne (by omega) _) ((HB9.out.drew.setRow_ne (by omega) _).setRow _) Try.underlying55 rfl Hca1.out Try.underlying27 rfl Try.size27) rfl ⟨by rw [← hfin, hca.out], ?_, ?_⟩
      · exact HK.out _ _ HR7.out ((HG9.out.mono fun k _ e => by omega).trans hgf)
      · exact (HG7.out.next HG9.out fun k hk e => by omega).next hgf fun k hk e => by omega

theorem errB_one {why : Int} {a : Nat} {b : Int} (h : ErrB why a b) : b = if why = 0 then 0 else (a : Int) := by
  rcases h with ⟨h0, h1⟩ | ⟨h0, h1⟩
  · rw [if_pos h0, h1]
  · rw [if_neg h0, h1]
theorem errB_is (why : Int) (a : Nat) : ErrB why a (if why = 0 then 0 else (a : Int)) := by
  by_cases h : why = 0
  · rw [if_pos h]; exact .inl ⟨h, rfl⟩
  · rw [if_neg h]; exact .inr ⟨h, rfl⟩
theorem xhash_good (x : Nat) (vB : Value) (l : List Int) (a : Nat) (w : World) (h : RfAt w x vB a 0 0) (hR : ∀ wx, (Grown w wx fun k => k = x) → RowAt wx vB l) (ha : a ≤ l.length) (hb : l.length ≤ 140737488355328) (D : List Int) (hD : D = l.drop a) (W : Int) (hW : W = nextW D 32) (N : Nat) (hN : N = nextN D 32) :
    Calls Try.prog 57 #[ptr x] w (RfPost x vB W (a + N) (.agg (bytesA 32 (hrd D W))) w) := by
  have hx : x < w.heap.size := Blk.lt h
  have hN32 : N ≤ 32 := by
    by_cases h0 : W = 0
    · rw [hN, (nextN_0 D 32 (by rw [← hW]; exact h0)).1]; decide
    · rw [hN, nextN_1 D 32 (by rw [← hW]; exact h0)]; decide
  have hc := xhash_core x w W (if W = 0 then 0 else ((a + N : Nat) : Int)) (D.take N) (fun w' => RfAt w' x vB (a + N) W (if W = 0 then 0 else ((a + N : Nat) : Int))) (fun wB hB => by
    refine (xraw_good x vB l a 32 wB (Blk.below h hB hx) (fun wx hg => hR wx ((Grown.below hB).trans hg)) ha hb D hD W hW N hN).mono ?_
    rintro e w' ⟨b, res, hE, rfl, hr, hg, hrow, hok⟩
    have e := errB_one hE
    rw [e] at hr
    exact ⟨res, by rw [e], hr, hrow, hok, hg⟩)
    (fun wa wb h1 hg => hg.blk h1 (by omega)) hx (by rw [List.length_take]; omega)
  refine hc.mono ?_
  rintro e w' ⟨rfl, hr, hg⟩
  refine ⟨_, errB_is W (a + N), ?_, hr, hg⟩
  rw [bytesA_congr (n := 32) (c := fun i => (D.take N).getD i 0) (d := hrd D W) (fun i hi => ?_)]
  unfold hrd
  by_cases h0 : W = 0
  · have : N = 32 := by rw [hN, (nextN_0 D 32 (by rw [← hW]; exact h0)).1]; rfl
    rw [if_pos h0, this]
    simp [List.getD_eq_getElem?_getD, hi]
  · have : N = 0 := by rw [hN, nextN_1 D 32 (by rw [← hW]; exact h0)]
    rw [if_neg h0, this]
    simp
end Go.Proofs.Ytkjjlfpghhefcab
namespace Go.Proofs.Ytkjjlfpghhefcab
open Go.RowKit
set_option linter.unusedSimpArgs false

def erA (why b : Int) : Array Value := #[.int .i64 why, .int .i64 b]
theorem Try.size27B (why b : Int) : (Try.prog.info? 27).map (·.size) = some (erA why b).size := by kernel_rfl
theorem Try.new27E (w : World) : (Instr.alloc 27 true (.tuple #[])).run Try.prog w = .ok (.pointer (some ⟨w.heap.size, 0, none⟩)) (w.alloc (.cells (erA 0 0) 27)) := by kernel_rfl
theorem erA_sizes (a b c d : Int) : (erA a b).size = (erA c d).size := rfl
theorem erA_one (a b : Int) : (erA a b).all (·.oneCell') = true := by simp [erA, Value.oneCell']
theorem erA_built (a b : Int) : Try.prog.built 27 [(0, .int .i64 a), (1, .int .i64 b)] = some (erA a b) := by kernel_rfl
theorem erA_0 (a b : Int) : (erA a b)[0]? = some (.int .i64 a) := rfl
set_option maxRecDepth 8000 in
set_option maxHeartbeats 1000000 in
theorem sameList_any (va vb : Value) (l : List OpV) (w : World) (hA : OpsAt w va l) (hB : OpsAt w vb l) (hb : l.length ≤ 4398046511104) :
    Calls Try.prog 13 #[va, vb] w fun e w' => e = .returned (.bool true) ∧ Below w.heap.size w w' := by
  obtain ⟨aa, acp, rfl⟩ := hA.form
  obtain ⟨ba, bc, rfl⟩ := hB.form
  have HA := Keep.mk hA
  have HB := Keep.mk hB
  have Hlb := Keep.mk hb
  have hb' : (l.length : Int) ≤ 9223372036854775807 := by omega
  clear hA hB hb
  go_enter Try.func13, Try.ntmps13
  refine wp_seq_k fun K1 hK1 => ?_
  refine wp_region_list (WL.out ?_)
  refine WL.val (by kernel_rfl) (.bool false) (by go_simp) ?_
  simp only [Act.put, List.setIfInBounds_toArray, List.set_cons_zero, List.set_cons_succ]
  refine WL.nil ?_
  refine hK1 _ _ ?_
  refine wp_seq_k fun K2 hK2 => ?_
  refine wp_seq_k fun K3 hK3 => ?_
  refine wp_region_list (WL.out ?_)
  refine WL.val (by kernel_rfl) (.slice aa l.length acp) (by go_simp) ?_
  simp only [Act.put, List.setIfInBounds_toArray, List.set_cons_zero, List.set_cons_succ]
  refine WL.val (by kernel_rfl) (.int .i64 (l.length : Int)) (by go_simp) ?_
  simp only [Act.put, List.setIfInBounds_toArray, List.set_cons_zero, List.set_cons_succ]
  refine WL.val (by kernel_rfl) (.slice ba l.length bc) (by go_simp) ?_
  simp only [Act.put, List.setIfInBounds_toArray, List.set_cons_zero, List.set_cons_succ]
  refine WL.val (by kernel_rfl) (.int .i64 (l.length : Int)) (by go_simp) ?_
  simp only [Act.put, List.setIfInBounds_toArray, List.set_cons_zero, List.set_cons_succ]
  refine WL.val (by kernel_rfl) (.bool false) (by go_simp) ?_
  simp only [Act.put, List.setIfInBounds_toArray, List.set_cons_zero, List.set_cons_succ]
  refine WL.nil ?_
  refine hK3 _ _ ?_
  refine wp_cond_false rfl ?_
  refine wp_skip ?_
  refine hK2 _ _ ?_
  refine wp_seq_k fun K4 hK4 => ?_
  refine wp_seq_k fun K5 hK5 => ?_
  refine wp_region_list (WL.out ?_)
  refine WL.val (by kernel_rfl) (.int .i64 0) (by go_simp) ?_
  simp only [Act.put, List.setIfInBounds_toArray, List.set_cons_zero, List.set_cons_succ]
  refine WL.nil ?_
  refine hK5 _ _ ?_
  refine wp_block ?_
  refine wp_loop (fun ac wr => ∃ (t : Nat) (u4 u6 u12 u13 u14 u15 u16 u17 u18 u19 u20 u21 u22 u23 u24 u25 u26 u27 u28 : Value), ac = { tmps := #[.slice aa l.length acp, .slice ba l.length bc, undef, undef, u4, .int .i64 (t : Int), u6, .slice aa l.length acp, .int .i64 (l.length : Int), .slice ba l.length bc, .int .i64 (l.length : Int), .bool false, u12, u13, u14, u15, u16, u17, u18, u19, u20, u21, u22, u23, u24, u25, u26, u27, u28], defers := [] } ∧ t ≤ l.length ∧ Below w.heap.size w wr) (fun a _ => l.length - (intOf (a.tmps.getD 5 undef)).toNat) ⟨0, .bool false, undef, undef, undef, undef, undef, undef, undef, undef, undef, undef, undef, undef, undef, undef, undef, undef, undef, undef, rfl, by omega, Below.refl _ _⟩ ?_
  rintro ac wr ⟨t, u4, u6, u12, u13, u14, u15, u16, u17, u18, u19, u20, u21, u22, u23, u24, u25, u26, u27, u28, rfl, ht, hB⟩
  by_cases htl : t < l.length
  · have htl' : (t : Int) < (l.length : Int) := by omega
    obtain ⟨gA, oA, hva, hra⟩ := (HA.out.below hB).at htl
    obtain ⟨gB, oB, hvb, hrb⟩ := (HB.out.below hB).at htl
    generalize l.getD t zeroOp = x at *
    have hwr1 : IntKind.i64.wrap ((t : Int) + 1) = (t : Int) + 1 := by rw [IntKind.wrap_i64]; have := Hlb.out; omega
    have HSa : Keep (∀ wx, Below wr.heap.size wr wx → wx.rangeAt gA (oA + t * 37) (opL x) ∧ wx.rangeAt gB (oB + t * 37) (opL x)) := ⟨fun wx hx => ⟨range_grown hra (Grown.below (S := fun _ => False) hx) (fun h => h), range_grown hrb (Grown.below (S := fun _ => False) hx) (fun h => h)⟩⟩
    have HBl := Keep.mk hB
    clear hra hrb hB
    refine wp_seq_k fun K6 hK6 => ?_
    refine wp_seq_k fun K7 hK7 => ?_
    refine wp_region_list (WL.out ?_)
    refine WL.val (by kernel_rfl) (.int .i64 (t : Int)) (by go_simp) ?_
    simp only [Act.put, List.setIfInBounds_toArray, List.set_cons_zero, List.set_cons_succ]
    refine WL.val (by kernel_rfl) (.slice aa l.length acp) (by go_simp) ?_
    simp only [Act.put, List.setIfInBounds_toArray, List.set_cons_zero, List.set_cons_succ]
    refine WL.val (by kernel_rfl) (.int .i64 (l.length : Int)) (by go_simp) ?_
    simp only [Act.put, List.setIfInBounds_toArray, List.set_cons_zero, List.set_cons_succ]
    refine WL.val (by kernel_rfl) (.bool true) (by go_simp) ?_
    simp only [Act.put, List.setIfInBounds_toArray, List.set_cons_zero, List.set_cons_succ]
    refine WL.nil ?_
    refine hK7 _ _ ?_
    refine wp_cond_true rfl ?_
    refine wp_skip ?_
    refine hK6 _ _ ?_
    refine wp_seq_k fun K8 hK8 => ?_
    refine wp_block ?_
    refine wp_seq_k fun K9 hK9 => ?_
    have hD0 : Below wr.heap.size wr wr.drew := (Below.refl _ _).drew
    refine wp_region_held_drew (S := fun wx => wx.rangeAt gA (oA + t * 37) (opL x) ∧ wx.rangeAt gB (oB + t * 37) (opL x)) (by kernel_rfl) (HSa.out _ hD0) (fun hHeld => ?_)
    refine wpAnyH_take (i := 0) (oi := ⟨some 18, Op.move (Operand.tmp 0), 36, _, _, none⟩) (v := .slice aa l.length acp) rfl (by kernel_rfl) (by kernel_rfl) (by kernel_rfl) (fun _ _ _ h => h) (Or.inl ⟨by rfl, fun w hS => by go_simp⟩) hHeld ?_
    simp only [Act.put, List.setIfInBounds_toArray, List.set_cons_zero, List.set_cons_succ]
    refine wpAnyH_take (i := 1) (oi := ⟨some 19, Op.move (Operand.tmp 5), 3, _, _, none⟩) (v := .int .i64 (t : Int)) rfl (by kernel_rfl) (by kernel_rfl) (by kernel_rfl) (fun _ _ _ h => h) (Or.inl ⟨by rfl, fun w hS => by go_simp⟩) hHeld ?_
    simp only [Act.put, List.setIfInBounds_toArray, List.set_cons_zero, List.set_cons_succ]
    refine wpAnyH_take (i := 2) (oi := ⟨some 20, Op.indexAddr 36 (Operand.tmp 18) (Operand.tmp 19), 0, _, _, none⟩) (v := .pointer (some ⟨gA, oA + t * 37, none⟩)) rfl (by kernel_rfl) (by kernel_rfl) (by kernel_rfl) (fun _ _ _ h => h) (Or.inl ⟨by rfl, fun w hS => by go_simp⟩) hHeld ?_
    simp only [Act.put, List.setIfInBounds_toArray, List.set_cons_zero, List.set_cons_succ]
    refine wpAnyH_take (i := 3) (oi := ⟨some 21, Op.load 59 (Operand.tmp 20), 59, _, _, none⟩) (v := .agg (opL x).toArray) rfl (by kernel_rfl) (by kernel_rfl) (by kernel_rfl) (fun _ _ _ h => h) (yieldsIf_load_mid (by rfl) 59 (Operand.tmp 20) rfl gA (oA + t * 37) rfl (opL x) _ (fun w hS => hS.1) Try.underlying59 rfl (Try.size59L x)) hHeld ?_
    simp only [Act.put, List.setIfInBounds_toArray, List.set_cons_zero, List.set_cons_succ]
    refine wpAnyH_take (i := 4) (oi := ⟨some 22, Op.move (Operand.tmp 1), 36, _, _, none⟩) (v := .slice ba l.length bc) rfl (by kernel_rfl) (by kernel_rfl) (by kernel_rfl) (fun _ _ _ h => h) (Or.inl ⟨by rfl, fun w hS => by go_simp⟩) hHeld ?_
    simp only [Act.put, List.setIfInBounds_toArray, List.set_cons_zero, List.set_cons_succ]
    refine wpAnyH_take (i := 5) (oi := ⟨some 23, Op.move (Operand.tmp 5), 3, _, _, none⟩) (v := .int .i64 (t : Int)) rfl (by kernel_rfl) (by kernel_rfl) (by kernel_rfl) (fun _ _ _ h => h) (Or.inl ⟨by rfl, fun w hS => by go_simp⟩) hHeld ?_
    simp only [Act.put, List.setIfInBounds_toArray, List.set_cons_zero, List.set_cons_succ]
    refine wpAnyH_take (i := 6) (oi := ⟨some 24, Op.indexAddr 36 (Operand.tmp 22) (Operand.tmp 23), 0, _, _, none⟩) (v := .pointer (some ⟨gB, oB + t * 37, none⟩)) rfl (by kernel_rfl) (by kernel_rfl) (by kernel_rfl) (fun _ _ _ h => h) (Or.inl ⟨by rfl, fun w hS => by go_simp⟩) hHeld ?_
    simp only [Act.put, List.setIfInBounds_toArray, List.set_cons_zero, List.set_cons_succ]
    refine wpAnyH_take (i := 7) (oi := ⟨some 25, Op.load 59 (Operand.tmp 24), 59, _, _, none⟩) (v := .agg (opL x).toArray) rfl (by kernel_rfl) (by kernel_rfl) (by kernel_rfl) (fun _ _ _ h => h) (yieldsIf_load_mid (by rfl) 59 (Operand.tmp 24) rfl gB (oB + t * 37) rfl (opL x) _ (fun w hS => hS.2) Try.underlying59 rfl (Try.size59L x)) hHeld ?_
    simp only [Act.put, List.setIfInBounds_toArray, List.set_cons_zero, List.set_cons_succ]
    refine wpAnyH_ready (rs := [8]) (by kernel_rfl) (by simp) ?_
    refine AllReadyH.cons (o := ⟨some 26, Op.call { callee := Callee.value (Operand.func 24), args := #[Operand.tmp 21, Operand.tmp 25], argTypes := #[59, 59] }, 4, _, _, none⟩) rfl (fun K hK => ?_) AllReadyH.nil
    rw [if_pos (by rfl)]
    refine wp_callF 24 _ _ rfl Try.in24 #[.agg (opA x), .agg (opA x)] (by simp [Act.eval, rng_load]) (fun vz wz => vz = .bool true ∧ Below wr.heap.size wr wz) ?_ ?_
    · refine (rsame_any x x wr.drew).mono ?_
      rintro e wz ⟨rfl, h⟩
      rw [sm_refl]
      exact ⟨_, rfl, rfl, hD0.trans (h.mono hD0.size)⟩
    rintro vz w7 ⟨rfl, h7⟩
    have HB7 := Keep.mk h7
    clear h7
    refine hK.out _ _ (HSa.out _ HB7.out) fun hHeld2 => ?_
    clear hK
    simp only [Act.put, List.setIfInBounds_toArray, List.set_cons_zero, List.set_cons_succ]
    refine wpAnyH_take (i := 9) (oi := ⟨some 6, Op.assign (Operand.tmp 26), 4, _, _, none⟩) (v := .bool true) rfl (by kernel_rfl) (by kernel_rfl) (by kernel_rfl) (fun _ _ _ h => h) (Or.inl ⟨by rfl, fun w hS => by go_simp⟩) hHeld2 ?_
    simp only [Act.put, List.setIfInBounds_toArray, List.set_cons_zero, List.set_cons_succ]
    refine wpAnyH_done (by kernel_rfl) ?_ _
    refine hK9 _ _ ?_
    refine wp_seq_k fun K10 hK10 => ?_
    refine wp_region_list (WL.out ?_)
    refine WL.val (by kernel_rfl) (.bool true) (by go_simp) ?_
    simp only [Act.put, List.setIfInBounds_toArray, List.set_cons_zero, List.set_cons_succ]
    refine WL.val (by kernel_rfl) (.bool false) (by go_simp) ?_
    simp only [Act.put, List.setIfInBounds_toArray, List.set_cons_zero, List.set_cons_succ]
    refine WL.nil ?_
    refine hK10 _ _ ?_
    refine wp_cond_false rfl ?_
    refine wp_skip ?_
    refine hK8 _ _ ?_
    refine wp_region_list (WL.out ?_)
    refine WL.val (by kernel_rfl) (.int .i64 (t : Int)) (by go_simp) ?_
    simp only [Act.put, List.setIfInBounds_toArray, List.set_cons_zero, List.set_cons_succ]
    refine WL.val (by kernel_rfl) (.int .i64 ((t : Int) + 1)) (by go_simp) ?_
    simp only [Act.put, List.setIfInBounds_toArray, List.set_cons_zero, List.set_cons_succ]
    refine WL.val (by kernel_rfl) (.int .i64 ((t : Int) + 1)) (by go_simp) ?_
    simp only [Act.put, List.setIfInBounds_toArray, List.set_cons_zero, List.set_cons_succ]
    refine WL.nil ?_
    refine ⟨⟨t + 1, u4, .bool true, .int .i64 (t : Int), .slice aa l.length acp, .int .i64 (l.length : Int), .bool true, .int .i64 (t : Int), .int .i64 ((t : Int) + 1), .slice aa l.length acp, .int .i64 (t : Int), .pointer (some ⟨gA, oA + t * 37, none⟩), .agg (opL x).toArray, .slice ba l.length bc, .int .i64 (t : Int), .pointer (some ⟨gB, oB + t * 37, none⟩), .agg (opL x).toArray, .bool true, .bool true, .bool false, rfl, by omega, HBl.out.trans (HB7.out.mono HBl.out.size)⟩, ?_⟩
    simp only [intOf]; show l.length - ((t : Int) + 1).toNat < l.length - ((t : Int)).toNat; omega
  · have htl' : ¬ (t : Int) < (l.length : Int) := by omega
    refine wp_seq_k fun K11 hK11 => ?_
    refine wp_seq_k fun K12 hK12 => ?_
    refine wp_region_list (WL.out ?_)
    refine WL.val (by kernel_rfl) (.int .i64 (t : Int)) (by go_simp) ?_
    simp only [Act.put, List.setIfInBounds_toArray, List.set_cons_zero, List.set_cons_succ]
    refine WL.val (by kernel_rfl) (.slice aa l.length acp) (by go_simp) ?_
    simp only [Act.put, List.setIfInBounds_toArray, List.set_cons_zero, List.set_cons_succ]
    refine WL.val (by kernel_rfl) (.int .i64 (l.length : Int)) (by go_simp) ?_
    simp only [Act.put, List.setIfInBounds_toArray, List.set_cons_zero, List.set_cons_succ]
    refine WL.val (by kernel_rfl) (.bool false) (by go_simp) ?_
    simp only [Act.put, List.setIfInBounds_toArray, List.set_cons_zero, List.set_cons_succ]
    refine WL.nil ?_
    refine hK12 _ _ ?_
    refine wp_cond_false rfl ?_
    refine wp_exit ?_
    refine hK4 _ _ ?_
    refine wp_seq_k fun K13 hK13 => ?_
    refine wp_region_list (WL.out ?_)
    refine WL.val (by kernel_rfl) (.bool true) (by go_simp) ?_
    simp only [Act.put, List.setIfInBounds_toArray, List.set_cons_zero, List.set_cons_succ]
    refine WL.nil ?_
    refine hK13 _ _ ?_
    refine wp_ret ?_
    go_ret
    exact ⟨rfl, hB⟩
set_option maxRecDepth 8000 in
theorem xwrongG (x : Nat) (vB : Value) (a q : Nat) (why : Int) (w : World) (h : RfAt w x vB a 0 0) : Calls Try.prog 31 #[ptr x, .int .i64 why, .int .i64 (q : Int)] w fun e w' => e = .returned (.agg (erA why (q : Int))) ∧ RfAt w' x vB q why (q : Int) ∧ Grown w w' fun k => k = x := by
  have HF : Keep (Blk w x 29 #[vB, .int .i64 (a : Int), .int .i64 0, .int .i64 0]) := ⟨h⟩
  clear h
  go_enter Try.func31, Try.ntmps31
  refine wp_seq_k fun K1 hK1 => ?_
  refine wp_region_list (WL.out ?_)
  refine WL.new (by kernel_rfl) 27 rfl _ Try.new27E ?_
  have HZ := Keep.mk (Blk.new w 27 (erA 0 0))
  have HF1 : Keep (Blk (w.alloc (.cells (erA 0 0) 27)) x 29 #[vB, .int .i64 (a : Int), .int .i64 0, .int .i64 0]) := ⟨HF.out.alloc _⟩
  have HG1 : Keep (Grown w (w.alloc (.cells (erA 0 0) 27)) fun k => k = x) := ⟨Grown.alloc w _ _⟩
  generalize w.alloc (.cells (erA 0 0) 27) = w1 at *
  have c2 := HF1.out.c 2 rfl
  simp only [Act.put, List.setIfInBounds_toArray, List.set_cons_zero, List.set_cons_succ]
  refine WL.nil ?_
  refine hK1 _ _ ?_
  refine wp_seq_k fun K2 hK2 => ?_
  refine wp_seq_k fun K3 hK3 => ?_
  refine wp_region_list (WL.out ?_)
  refine WL.val (by kernel_rfl) (.pointer (some ⟨x, 0, none⟩)) (by go_simp) ?_
  simp only [Act.put, List.setIfInBounds_toArray, List.set_cons_zero, List.set_cons_succ]
  refine WL.val (by kernel_rfl) (.pointer (some ⟨x, 0, none⟩)) (by go_simp) ?_
  simp only [Act.put, List.setIfInBounds_toArray, List.set_cons_zero, List.set_cons_succ]
  refine WL.val (by kernel_rfl) (.pointer (some ⟨x, 2, none⟩)) (by go_simp) ?_
  simp only [Act.put, List.setIfInBounds_toArray, List.set_cons_zero, List.set_cons_succ]
  refine WL.val (by kernel_rfl) (.pointer (some ⟨x, 2, none⟩)) (by go_simp) ?_
  simp only [Act.put, List.setIfInBounds_toArray, List.set_cons_zero, List.set_cons_succ]
  refine WL.val (by kernel_rfl) (.int .i64 0) (by go_simp) ?_
  simp only [Act.put, List.setIfInBounds_toArray, List.set_cons_zero, List.set_cons_succ]
  refine WL.val (by kernel_rfl) (.bool true) (by go_simp) ?_
  simp only [Act.put, List.setIfInBounds_toArray, List.set_cons_zero, List.set_cons_succ]
  refine WL.nil ?_
  refine hK3 _ _ ?_
  refine wp_cond_true rfl ?_
  refine wp_seq_k fun K4 hK4 => ?_
  refine wp_region_list (WL.out ?_)
  refine WL.val (by kernel_rfl) (.pointer (some ⟨x, 0, none⟩)) (by go_simp) ?_
  simp only [Act.put, List.setIfInBounds_toArray, List.set_cons_zero, List.set_cons_succ]
  refine WL.val (by kernel_rfl) (.int .i64 why) (by go_simp) ?_
  simp only [Act.put, List.setIfInBounds_toArray, List.set_cons_zero, List.set_cons_succ]
  refine WL.val (by kernel_rfl) (.int .i64 (q : Int)) (by go_simp) ?_
  simp only [Act.put, List.setIfInBounds_toArray, List.set_cons_zero, List.set_cons_succ]
  refine WL.bld (by kernel_rfl) 27 _ rfl [(0, .int .i64 why), (1, .int .i64 (q : Int))] (by simp [Act.eval]) (erA why (q : Int)) (erA_built _ _) ?_
  simp only [Act.put, List.setIfInBounds_toArray, List.set_cons_zero, List.set_cons_succ]
  refine WL.val (by kernel_rfl) (.pointer (some ⟨x, 0, none⟩)) (by go_simp) ?_
  simp only [Act.put, List.setIfInBounds_toArray, List.set_cons_zero, List.set_cons_succ]
  refine WL.val (by kernel_rfl) (.pointer (some ⟨x, 2, none⟩)) (by go_simp) ?_
  simp only [Act.put, List.setIfInBounds_toArray, List.set_cons_zero, List.set_cons_succ]
  refine WL.part (by kernel_rfl) 27 (.tmp 18) (.tmp 16) rfl x 2 (erA why (q : Int)) rfl rfl 29 #[vB, .int .i64 (a : Int), .int .i64 0, .int .i64 0] HF1.out (Try.size27B _ _) (show 2 + 2 ≤ 4 by decide) (erA_one _ _) #[vB, .int .i64 (a : Int), .int .i64 why, .int .i64 (q : Int)] (by simp [erA]) ?_
  have HF2 := Keep.mk (HF1.out.setRow #[vB, .int .i64 (a : Int), .int .i64 why, .int .i64 (q : Int)])
  have HZ2 := Keep.mk (HZ.out.setRow_ne (b' := x) (blk_ne HZ.out HF1.out (by decide)) #[vB, .int .i64 (a : Int), .int .i64 why, .int .i64 (q : Int)])
  have HG2 : Keep (Grown w (w1.setRow x #[vB, .int .i64 (a : Int), .int .i64 why, .int .i64 (q : Int)]) fun k => k = x) := ⟨HG1.out.trans (Grown.setRow w1 x _ fun _ => rfl)⟩
  generalize w1.setRow x #[vB, .int .i64 (a : Int), .int .i64 why, .int .i64 (q : Int)] = w2 at *
  have d1 := HF2.out.c 1 rfl
  have e1 := HF2.out.frozen 1
  clear c2
  simp only [Act.put]
  refine WL.nil ?_
  refine hK4 _ _ ?_
  refine wp_region_list (WL.out ?_)
  refine WL.val (by kernel_rfl) (.pointer (some ⟨x, 0, none⟩)) (by go_simp) ?_
  simp only [Act.put, List.setIfInBounds_toArray, List.set_cons_zero, List.set_cons_succ]
  refine WL.val (by kernel_rfl) (.int .i64 (q : Int)) (by go_simp) ?_
  simp only [Act.put, List.setIfInBounds_toArray, List.set_cons_zero, List.set_cons_succ]
  refine WL.val (by kernel_rfl) (.pointer (some ⟨x, 0, none⟩)) (by go_simp) ?_
  simp only [Act.put, List.setIfInBounds_toArray, List.set_cons_zero, List.set_cons_succ]
  refine WL.val (by kernel_rfl) (.pointer (some ⟨x, 1, none⟩)) (by go_simp) ?_
  simp only [Act.put, List.setIfInBounds_toArray, List.set_cons_zero, List.set_cons_succ]
  refine WL.cell (by kernel_rfl) (w2.setCell ⟨x, 1, none⟩ (.int .i64 (q : Int))) (by go_simp) ?_
  have HF3 : Keep (Blk (w2.setCell ⟨x, 1, none⟩ (.int .i64 (q : Int))) x 29 #[vB, .int .i64 (q : Int), .int .i64 why, .int .i64 (q : Int)]) := ⟨HF2.out.set 1 (.int .i64 (q : Int))⟩
  have HZ3 := Keep.mk (HZ2.out.set_ne (b' := x) (j := 1) (blk_ne HZ2.out HF2.out (by decide)) (.int .i64 (q : Int)))
  have HG3 : Keep (Grown w (w2.setCell ⟨x, 1, none⟩ (.int .i64 (q : Int))) fun k => k = x) := ⟨HG2.out.trans (Grown.setCell w2 x 1 _ fun _ => rfl)⟩
  generalize w2.setCell ⟨x, 1, none⟩ (.int .i64 (q : Int)) = w3 at *
  clear d1 e1
  simp only [Act.put]
  refine WL.nil ?_
  refine hK2 _ _ ?_
  refine wp_seq_k fun K5 hK5 => ?_
  refine wp_region_list (WL.out ?_)
  refine WL.val (by kernel_rfl) (.pointer (some ⟨x, 0, none⟩)) (by go_simp) ?_
  simp only [Act.put, List.setIfInBounds_toArray, List.set_cons_zero, List.set_cons_succ]
  refine WL.val (by kernel_rfl) (.pointer (some ⟨x, 0, none⟩)) (by go_simp) ?_
  simp only [Act.put, List.setIfInBounds_toArray, List.set_cons_zero, List.set_cons_succ]
  refine WL.val (by kernel_rfl) (.pointer (some ⟨x, 2, none⟩)) (by go_simp) ?_
  simp only [Act.put, List.setIfInBounds_toArray, List.set_cons_zero, List.set_cons_succ]
  refine WL.midA (by kernel_rfl) 27 (.tmp 25) rfl x 2 rfl (erA why (q : Int)) _ (fun j v hv => by
    rw [HF3.out.cell]
    match j with
    | 0 => simpa [erA] using hv
    | 1 => simpa [erA] using hv
    | j + 2 => simp [erA] at hv) Try.underlying27 rfl (Try.size27B _ _) ?_
  simp only [Act.put, List.setIfInBounds_toArray, List.set_cons_zero, List.set_cons_succ]
  refine WL.storeR (by kernel_rfl) 27 (.tmp 6) (.tmp 26) rfl w.heap.size (erA why (q : Int)) rfl rfl 27 (erA 0 0) HZ3.out (Try.size27B _ _) (erA_sizes _ _ _ _) (erA_one _ _) ?_
  simp only [Act.put]
  refine WL.nil ?_
  refine hK5 _ _ ?_
  refine wp_ret ?_
  try simp only [Exit.then]
  refine bodyPost_ret (v := .agg (erA why (q : Int))) (results_cell1_row Try.results31 _ _ w.heap.size 27 _ (0, 0) _ rfl (HZ3.out.setRow _) Try.underlying27 rfl (Try.size27B _ _)) rfl ?_
  exact ⟨rfl, HF3.out.setRow_ne (fun e => blk_ne HZ3.out HF3.out (by decide) e.symm) _, HG3.out.next (Grown.setRow w3 w.heap.size _ (S := fun k => k = w.heap.size) fun _ => rfl) (fun k hk e => by omega)⟩
structure OS (w0 : World) (x g4 g5 g6 g9 : Nat) (vB : Value) (y : OpV) (ew eb : Int) (p : Nat) (rw rb : Int) (w : World) : Prop where
  o : Blk w g6 59 (opA y)
  e : Blk w g9 27 (erA ew eb)
  r4 : Blk w g4 59 (opA zeroOp)
  r5 : Blk w g5 27 (erA 0 0)
  rf : RfAt w x vB p rw rb
  gr : Grown w0 w fun k => k = x
  n46 : g4 ≠ g6
  n59 : g5 ≠ g9
  lo : w0.heap.size ≤ g4 ∧ w0.heap.size ≤ g5 ∧ w0.heap.size ≤ g6 ∧ w0.heap.size ≤ g9
section
variable {w0 : World} {x g4 g5 g6 g9 : Nat} {vB : Value} {y : OpV} {ew eb : Int} {p : Nat} {rw rb : Int} {w w' : World}
theorem OS.call (h : OS w0 x g4 g5 g6 g9 vB y ew eb p rw rb w) {p' : Nat} {rw' rb' : Int} (h1 : RfAt w' x vB p' rw' rb') (h2 : Grown w w' fun k => k = x) : OS w0 x g4 g5 g6 g9 vB y ew eb p' rw' rb' w' where
  o := h2.blk h.o (blk_ne h.o h.rf (by decide))
  e := h2.blk h.e (blk_ne h.e h.rf (by decide))
  r4 := h2.blk h.r4 (blk_ne h.r4 h.rf (by decide))
  r5 := h2.blk h.r5 (blk_ne h.r5 h.rf (by decide))
  rf := h1
  gr := h.gr.trans h2
  n46 := h.n46
  n59 := h.n59
  lo := h.lo
theorem OS.below (h : OS w0 x g4 g5 g6 g9 vB y ew eb p rw rb w) (hb : Below w.heap.size w w') : OS w0 x g4 g5 g6 g9 vB y ew eb p rw rb w' where
  o := h.o.below hb h.o.lt
  e := h.e.below hb h.e.lt
  r4 := h.r4.below hb h.r4.lt
  r5 := h.r5.below hb h.r5.lt
  rf := Blk.below h.rf hb (Blk.lt h.rf)
  gr := h.gr.trans (Grown.below hb)
  n46 := h.n46
  n59 := h.n59
  lo := h.lo
theorem OS.setO (h : OS w0 x g4 g5 g6 g9 vB y ew eb p rw rb w) (y' : OpV) (h1 : Blk w' g6 59 (opA y')) (h2 : Grown w w' fun k => k = g6) : OS w0 x g4 g5 g6 g9 vB y' ew eb p rw rb w' where
  o := h1
  e := h2.blk h.e (blk_ne h.e h.o (by decide))
  r4 := h2.blk h.r4 h.n46
  r5 := h2.blk h.r5 (blk_ne h.r5 h.o (by decide))
  rf := h2.blk h.rf (blk_ne h.rf h.o (by decide))
  gr := h.gr.next h2 fun k hk e => by have := h.lo.2.2.1; omega
  n46 := h.n46
  n59 := h.n59
  lo := h.lo
theorem OS.setE (h : OS w0 x g4 g5 g6 g9 vB y ew eb p rw rb w) (ew' eb' : Int) : OS w0 x g4 g5 g6 g9 vB y ew' eb' p rw rb (w.setRow g9 (erA ew' eb')) where
  o := h.o.setRow_ne (blk_ne h.o h.e (by decide)) _
  e := h.e.setRow _
  r4 := h.r4.setRow_ne (blk_ne h.r4 h.e (by decide)) _
  r5 := h.r5.setRow_ne h.n59 _
  rf := Blk.setRow_ne h.rf (blk_ne h.rf h.e (by decide)) _
  gr := h.gr.next (Grown.setRow w g9 _ (S := fun k => k = g9) fun _ => rfl) fun k hk e => by have := h.lo.2.2.2; omega
  n46 := h.n46
  n59 := h.n59
  lo := h.lo
end
theorem byt_n (D : List Int) (mm : Int) : (byt D mm).2.1 ≤ D.length := by
  unfold byt
  split
  · have h1 := (fstM_shape D mm).2
    have h2 : nextN (D.drop (fstM D mm).2.1.toNat) (fstM D mm).1 ≤ (D.drop (fstM D mm).2.1.toNat).length := by
      by_cases h : nextW (D.drop (fstM D mm).2.1.toNat) (fstM D mm).1 = 0
      · have := nextN_0 _ _ h; omega
      · rw [nextN_1 _ _ h]; omega
    rw [List.length_drop] at h2
    show (fstM D mm).2.1.toNat + _ ≤ _
    omega
  · exact Nat.zero_le _
theorem next_n (D : List Int) (n : Int) : nextN D n ≤ D.length := by
  by_cases h : nextW D n = 0
  · have := nextN_0 _ _ h; omega
  · rw [nextN_1 _ _ h]; omega
theorem fst_n (D : List Int) (mm : Int) : (fstM D mm).2.1.toNat ≤ D.length := by have := (fstM_shape D mm).2; omega
theorem adv {L : List Int} {a N : Nat} (ha : a ≤ L.length) (h : N ≤ (L.drop a).length) : a + N ≤ L.length := by rw [List.length_drop] at h; omega
theorem hasI_flags (c : Int) (h : hasI c ≠ []) : hasI c = 0 :: ((if txt c = true then [1] else []) ++ ((if c = 6 then [2] else []) ++ (if hat c = true then [3] else []))) := by
  have hk := hasI_mem h
  simp only [List.mem_cons, List.not_mem_nil, or_false] at hk
  rcases hk with rfl | rfl | rfl | rfl | rfl | rfl | rfl | rfl | rfl <;> decide
theorem hasI_of (c : Int) (h1 : 1 ≤ c) (h2 : c ≤ 9) : hasI c ≠ [] := hasI_some c (by simp only [List.mem_cons, List.not_mem_nil, or_false]; omega)
def ROne (x : Nat) (vB : Value) (R : Int × Nat × OpV) (w : World) (e : Ending) (w' : World) : Prop :=
  ∃ y b, e = .returned (.tuple #[.agg (opA y), .agg (erA R.1 b)]) ∧ ErrB R.1 R.2.1 b ∧ RfAt w' x vB R.2.1 R.1 b ∧ (Grown w w' fun k => k = x) ∧ (R.1 = 0 → y = R.2.2 ∧ OpOk y)
theorem OwnO.nil (w : World) : OwnO w (.slice none 0 0) [] := ⟨rfl, .inl ⟨rfl, rfl⟩⟩
theorem run_appL (w : World) (ty : TypeId) (vx : Value) (m : List OpV) (hx : OwnO w vx m) (hb : m.length ≤ 1000000000000) :
    ∃ v' w', (Builtin.append_ #[36, 36] ty #[.slice none 0 0, vx]).run Try.prog w = .ok v' w' ∧ OwnO w' v' m ∧ Below w.heap.size w w' ∧ ∀ k, v'.ownBlock = some k → w.heap.size ≤ k := by
  obtain ⟨i, hi, hzz⟩ := Option.map_eq_some_iff.1 Try.info59
  simp only [Prod.mk.injEq] at hzz
  obtain ⟨hz, hsz, hby⟩ := hzz
  rcases hx.form with ⟨rfl, rfl⟩ | ⟨g, cap, cur, rfl, hg, hc, ht⟩
  · have hrun := run_append_owned_none (P := Try.prog) (w := w) 0 36 ty 59 i 37 Try.underlying36 hi (.slice none 0 0) 0 [] (OwnO.nil w)
    exact ⟨_, _, hrun, OwnO.nil w, Below.refl _ _, fun k hk => by simp [Value.ownBlock] at hk⟩
  · obtain ⟨v', w', hr, h1, h2, h3, h4⟩ := run_append_own_at (P := Try.prog) w 0 36 ty 59 i (.agg (opA zeroOp)) 37 88 Try.underlying36 hi hz hsz hby (opA_size _) (by omega) (.slice none 0 0) 0 [] (OwnO.nil w) ⟨g, 0, none⟩ m.length cap (flatO m) (flatO_len m) (fun j u hu => by
        rw [Addr.add_mid, Nat.zero_add, hg.cell]
        rw [← ht, List.getElem?_take] at hu
        split at hu
        · simpa using hu
        · cases hu)
      (fun u hu => by
        obtain ⟨y, _, hy⟩ := List.mem_flatMap.1 hu
        exact (Array.all_eq_true_iff_forall_mem.1 (opA_one y)) u (by unfold opA; simpa using hy)) (by unfold maxLen; omega) (by omega) (Nat.zero_le _)
    refine ⟨v', w', hr, ?_, ⟨h2.os, h2.tape, h2.output, h2.size, fun k hk => h2.block k hk (by simp [Value.ownBlock])⟩, fun k hk => ?_⟩
    · unfold OwnO; simpa using h1
    · rcases h4 with h4 | h4
      · rw [h4] at hk; simp [Value.ownBlock] at hk
      · rw [h4] at hk; injection hk with hk; omega
theorem wp_appL {Q : Exit → Act → World → Prop} {o : Oper} {a : Act} {w : World} {K : Act → World → Prop} (s x : Operand)
    (ho : o.op = .call { callee := .builtin .append, args := #[s, x], argTypes := #[36, 36] }) (vx : Value) (m : List OpV)
    (hs : a.eval s = .slice none 0 0) (hx : a.eval x = vx) (hown : OwnO w vx m) (hb : m.length ≤ 1000000000000)
    (h : ∀ v' w', OwnO w' v' m → Below w.heap.size w w' → (∀ k, v'.ownBlock = some k → w.heap.size ≤ k) → K (a.put o.dst v') w') : o.wp Try.prog a w K Q := by
  obtain ⟨v', w', hr, h2, h3, h4⟩ := run_appL w o.type vx m hown hb
  unfold Oper.wp execOp
  simp only [ho, resolve, invoke, builtin, Sem.run_bind, Sem.run_pure, Result.andThen_ok, List.map_toArray, List.map_cons, List.map_nil, hs, hx, hr]
  exact h v' w' h2 h3 h4
theorem wp_appO1 {Q : Exit → Act → World → Prop} {o : Oper} {a : Act} {w : World} {K : Act → World → Prop} (s x : Operand)
    (ho : o.op = .call { callee := .builtin .append, args := #[s, x], argTypes := #[36, 36] }) (v : Value) (l : List OpV) (g : Nat) (y : OpV)
    (hs : a.eval s = v) (hx : a.eval x = .slice (some ⟨g, 0, none⟩) 1 1) (hown : OwnO w v l) (hg : Blk w g 59 (opA y)) (hb : l.length ≤ 1000000000000)
    (h : ∀ v' w', OwnO w' v' (l ++ [y]) → (Grown w w' fun k => v.ownBlock = some k) → Moved w v v' → K (a.put o.dst v') w') : o.wp Try.prog a w K Q := by
  obtain ⟨v', w', hr, h1, h2, h3⟩ := run_appO w o.type v l hown g y hg hb
  unfold Oper.wp execOp
  simp only [ho, resolve, invoke, builtin, Sem.run_bind, Sem.run_pure, Result.andThen_ok, List.map_toArray, List.map_cons, List.map_nil, hs, hx, hr]
  exact h v' w' h1 h2 h3
theorem wp_bsO {P : Program} {o : Oper} {a : Act} {w : World} {K : Act → World → Prop} {Q : Exit → Act → World → Prop} (t : TypeId) (n : Nat) (parts : Array (Nat × Operand)) (ho : o.op = .buildSlice t n parts)
    (vs : Array (Nat × Value)) (hv : (parts.map fun (i, x) => (i, a.eval x)) = vs) (v : Value) (w' : World) (hrun : (Instr.buildSlice t n vs).run P w = .ok v w') (h : K (a.put o.dst v) w') : o.wp P a w K Q := by
  unfold Oper.wp execOp
  simp only [ho, hv, Sem.run_bind, hrun, Result.andThen_ok]
  exact h
end Go.Proofs.Ytkjjlfpghhefcab
