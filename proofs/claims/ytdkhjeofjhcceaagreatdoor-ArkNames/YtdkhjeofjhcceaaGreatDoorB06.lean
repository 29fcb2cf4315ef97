import Derived.Test.YtdkhjeofjhcceaaGreatDoorB05
import Derived.Defers
import Derived.Recover
namespace Go.Proofs.YtdkhjeofjhcceaaGreatDoor.Nd
open Go.RowKit
set_option linter.unusedSimpArgs false

def getA (L : List Int) (ah : List OpV) (x : OpV) (a : Nat) : Int × Nat × OpV :=
  if (fstM (L.drop a) 1024).2.2 ≠ 0 then ((fstM (L.drop a) 1024).2.2, a + (fstM (L.drop a) 1024).2.1.toNat, x)
  else if (fstM (L.drop a) 1024).1 = 0 then
    (if mayAt ah { x with op := 0 } = true then (0, a + (fstM (L.drop a) 1024).2.1.toNat, { x with op := 0 }) else (42, a, x))
  else if nextW (L.drop (a + (fstM (L.drop a) 1024).2.1.toNat)) 32 ≠ 0 then (nextW (L.drop (a + (fstM (L.drop a) 1024).2.1.toNat)) 32, a + (fstM (L.drop a) 1024).2.1.toNat + nextN (L.drop (a + (fstM (L.drop a) 1024).2.1.toNat)) 32, x)
  else (if mayAt ah { x with op := (fstM (L.drop a) 1024).1, node := (L.drop (a + (fstM (L.drop a) 1024).2.1.toNat)).take 32 } = true then (0, a + (fstM (L.drop a) 1024).2.1.toNat + 32, { x with op := (fstM (L.drop a) 1024).1, node := (L.drop (a + (fstM (L.drop a) 1024).2.1.toNat)).take 32 }) else (42, a, x))
def getF (L : List Int) (ah : List OpV) (i : Nat) (x : OpV) (a : Nat) : Int × Nat × OpV :=
  if i = 0 then ((byt (L.drop a) 65536).1, a + (byt (L.drop a) 65536).2.1, { x with key := strOfNums (byt (L.drop a) 65536).2.2 })
  else if i = 1 then ((byt (L.drop a) 65536).1, a + (byt (L.drop a) 65536).2.1, { x with text := strOfNums (byt (L.drop a) 65536).2.2 })
  else if i = 2 then ((fstM (L.drop a) 18446744073709551615).2.2, a + (fstM (L.drop a) 18446744073709551615).2.1.toNat, { x with n := if (fstM (L.drop a) 18446744073709551615).2.2 = 0 then zag (fstM (L.drop a) 18446744073709551615).1 else 0 })
  else getA L ah x a
def GetPost (p g : Nat) (s : ByteArray) (R : Int × Nat × OpV) (w : World) (e : Ending) (w' : World) : Prop :=
  ∃ er, e = .returned er ∧ (Grown w w' fun k => k = p ∨ k = g) ∧
    ((R.1 = 0 ∧ er = .nilIface ∧ InAt w' p s R.2.1 none ∧ Blk w' g 188 (opA R.2.2) ∧ OpOk R.2.2) ∨ (R.1 ≠ 0 ∧ ∃ q, w.heap.size ≤ q ∧ er = err q ∧ BadAt w' q R.1 R.2.1))
theorem byt_l (D : List Int) (mm : Int) : (byt D mm).2.2.length ≤ D.length ∧ (Byts D → Byts (byt D mm).2.2) := by
  unfold byt
  split
  · exact ⟨by simp only [List.length_take, List.length_drop]; omega, fun h => (h.drop _).take _⟩
  · exact ⟨by simp, fun _ => Byts.nil⟩
theorem str_size {l : List Int} (h : Byts l) : (strOfNums l).size = l.length := by rw [← lst_len, lst_nums h]
theorem fst_rng (D : List Int) (hD : Byts D) (mm : Int) (hmm : 0 ≤ mm) : 0 ≤ (fstM D mm).1 ∧ (fstM D mm).1 ≤ mm := by
  by_cases h : (fstM D mm).2.2 = 0
  · exact fstM_le D mm hD h
  · have := ((fstM_shape D mm).1 h).1; omega
theorem err_step {w w1 w' : World} {why : Int} {a : Nat} {bad : Option Nat} {er : Value} (h : ErrAs w w1 why a bad er) (hk : ∀ q, BadAt w1 q why a → BadAt w' q why a) :
    (why = 0 ∧ er = .nilIface ∧ bad = none) ∨ (why ≠ 0 ∧ ∃ q, w.heap.size ≤ q ∧ er = err q ∧ BadAt w' q why a) := by
  rcases h with ⟨h1, h2, h3⟩ | ⟨h1, q, h2, h3, h4, h5⟩
  · exact .inl ⟨h1, h3, h2⟩
  · exact .inr ⟨h1, q, h2, h4, hk q h5⟩
theorem get0_any (p g : Nat) (s : ByteArray) (a : Nat) (x : OpV) (vA : Value) (ah : List OpV) (w : World) (hI : InAt w p s a none) (hb : s.size ≤ 140737488355328) (hX : Blk w g 188 (opA x)) (hx : OpOk x) :
    Calls Tryz.prog 140 #[ptr p, ptr g, vA] w (GetPost p g s (getF (lst s) ah 0 x a) w) := by
  have HI := Keep.mk hI
  have HX := Keep.mk hX
  have Hne : Keep (p ≠ g) := ⟨blk_ne hI.blk hX (by decide)⟩
  obtain ⟨D, hD⟩ : ∃ D, D = (lst s).drop a := ⟨_, rfl⟩
  obtain ⟨W, hW⟩ : ∃ W, W = (byt D ((65536 : Nat) : Int)).1 := ⟨_, rfl⟩
  obtain ⟨N, hN⟩ : ∃ N, N = (byt D ((65536 : Nat) : Int)).2.1 := ⟨_, rfl⟩
  obtain ⟨l, hl⟩ : ∃ l, l = (byt D ((65536 : Nat) : Int)).2.2 := ⟨_, rfl⟩
  obtain ⟨st, hst⟩ : ∃ st, st = strOfNums l := ⟨_, rfl⟩
  have hG : getF (lst s) ah 0 x a = (W, a + N, { x with key := st }) := by
    show ((byt ((lst s).drop a) 65536).1, a + (byt ((lst s).drop a) 65536).2.1, _) = _
    rw [hst, hl, hW, hN, hD]; rfl
  have HC := Keep.mk (itext_good p s a 65536 65536 (by decide) w hI hb (by decide) D hD W hW N hN l hl st hst)
  have hsz : st.size ≤ 140737488355328 := by
    have hby : Byts D := by rw [hD]; exact (lst_byts s).drop a
    have hl2 := byt_l D ((65536 : Nat) : Int)
    rw [hst, str_size (by rw [hl]; exact hl2.2 hby), hl]
    have h1 := hl2.1
    have h2 : D.length ≤ s.size := by rw [hD, List.length_drop, lst_len]; omega
    omega
  have HOk : Keep (OpOk { x with key := st }) := ⟨{ hx with key := hsz }⟩
  clear hD hW hN hl hst
  have HGk := Keep.mk hG
  clear hI hb hX hx hG
  have hG := HGk.out
  clear hG
  go_enter Tryz.func140, Tryz.ntmps140
  refine wp_seq_k fun K1 hK1 => ?_
  refine wp_region_list (WL.out ?_)
  refine WL.val (by kernel_rfl) (.nilIface) (by go_simp) ?_
  simp only [Act.put, List.setIfInBounds_toArray, List.set_cons_zero, List.set_cons_succ]
  refine WL.nil ?_
  refine hK1 _ _ ?_
  refine wp_seq_k fun K2 hK2 => ?_
  refine wp_region_list (WL.out ?_)
  refine WL.val (by kernel_rfl) (.pointer (some ⟨p, 0, none⟩)) (by go_simp) ?_
  simp only [Act.put, List.setIfInBounds_toArray, List.set_cons_zero, List.set_cons_succ]
  refine WL.callF (by kernel_rfl) 141 _ _ rfl Tryz.in141 #[ptr p, .int .i64 65536] (by simp [Act.eval]) ?_
  refine (HC.out).mono ?_
  rintro e w1 ⟨bad, er, rfl, h1, h2, h3⟩
  refine ⟨_, rfl, ?_⟩
  have H1 := Keep.mk h1
  have H2 := Keep.mk h2
  have H3 := Keep.mk h3
  have HX1 := Keep.mk (h2.blk HX.out (fun e => Hne.out e.symm))
  have c1 := HX1.out.c 1 (opA_1 x)
  have f1 := HX1.out.frozen 1
  clear h1 h2 h3
  simp only [Act.put, List.setIfInBounds_toArray, List.set_cons_zero, List.set_cons_succ]
  refine WL.val (by kernel_rfl) (.tuple #[.string st, er]) (by go_simp) ?_
  simp only [Act.put, List.setIfInBounds_toArray, List.set_cons_zero, List.set_cons_succ]
  refine WL.val (by kernel_rfl) (.string st) (by go_simp) ?_
  simp only [Act.put, List.setIfInBounds_toArray, List.set_cons_zero, List.set_cons_succ]
  refine WL.val (by kernel_rfl) (er) (by go_simp) ?_
  simp only [Act.put, List.setIfInBounds_toArray, List.set_cons_zero, List.set_cons_succ]
  refine WL.val (by kernel_rfl) (.string st) (by go_simp) ?_
  simp only [Act.put, List.setIfInBounds_toArray, List.set_cons_zero, List.set_cons_succ]
  refine WL.val (by kernel_rfl) (er) (by go_simp) ?_
  simp only [Act.put, List.setIfInBounds_toArray, List.set_cons_zero, List.set_cons_succ]
  refine WL.nil ?_
  refine hK2 _ _ ?_
  refine wp_seq_k fun K3 hK3 => ?_
  refine wp_region_list (WL.out ?_)
  refine WL.val (by kernel_rfl) (.pointer (some ⟨g, 0, none⟩)) (by go_simp) ?_
  simp only [Act.put, List.setIfInBounds_toArray, List.set_cons_zero, List.set_cons_succ]
  refine WL.val (by kernel_rfl) (.string st) (by go_simp) ?_
  simp only [Act.put, List.setIfInBounds_toArray, List.set_cons_zero, List.set_cons_succ]
  refine WL.val (by kernel_rfl) (.pointer (some ⟨g, 0, none⟩)) (by go_simp) ?_
  simp only [Act.put, List.setIfInBounds_toArray, List.set_cons_zero, List.set_cons_succ]
  refine WL.val (by kernel_rfl) (.pointer (some ⟨g, 1, none⟩)) (by go_simp) ?_
  simp only [Act.put, List.setIfInBounds_toArray, List.set_cons_zero, List.set_cons_succ]
  refine WL.cell (by kernel_rfl) (w1.setCell ⟨g, 1, none⟩ (.string st)) (by go_simp) ?_
  simp only [Act.put]
  refine WL.nil ?_
  refine hK3 _ _ ?_
  refine wp_seq_k fun K4 hK4 => ?_
  refine wp_region_list (WL.out ?_)
  refine WL.val (by kernel_rfl) (er) (by go_simp) ?_
  simp only [Act.put, List.setIfInBounds_toArray, List.set_cons_zero, List.set_cons_succ]
  refine WL.val (by kernel_rfl) (er) (by go_simp) ?_
  simp only [Act.put, List.setIfInBounds_toArray, List.set_cons_zero, List.set_cons_succ]
  refine WL.nil ?_
  refine hK4 _ _ ?_
  refine wp_ret ?_
  go_ret
  have hXn := HX1.out.set 1 (.string st)
  rw [set_1] at hXn
  refine ⟨er, rfl, ?_, ?_⟩
  · exact (H2.out.mono fun _ _ h => .inl h).trans (Grown.setCell w1 g 1 _ fun _ => .inr rfl)
  · rw [HGk.out]
    rcases err_step H3.out (w' := w1.setCell ⟨g, 1, none⟩ (.string st)) (fun q hq => hq.set_ne (blk_ne hq HX1.out (by decide)) _) with ⟨h1, h2, h3⟩ | h
    · subst h3
      exact .inl ⟨h1, h2, ⟨H1.out.blk.set_ne (fun e => Hne.out e) _, H1.out.le⟩, hXn, HOk.out⟩
    · exact .inr h
theorem get1_any (p g : Nat) (s : ByteArray) (a : Nat) (x : OpV) (vA : Value) (ah : List OpV) (w : World) (hI : InAt w p s a none) (hb : s.size ≤ 140737488355328) (hX : Blk w g 188 (opA x)) (hx : OpOk x) :
    Calls Tryz.prog 144 #[ptr p, ptr g, vA] w (GetPost p g s (getF (lst s) ah 1 x a) w) := by
  have HI := Keep.mk hI
  have HX := Keep.mk hX
  have Hne : Keep (p ≠ g) := ⟨blk_ne hI.blk hX (by decide)⟩
  obtain ⟨D, hD⟩ : ∃ D, D = (lst s).drop a := ⟨_, rfl⟩
  obtain ⟨W, hW⟩ : ∃ W, W = (byt D ((65536 : Nat) : Int)).1 := ⟨_, rfl⟩
  obtain ⟨N, hN⟩ : ∃ N, N = (byt D ((65536 : Nat) : Int)).2.1 := ⟨_, rfl⟩
  obtain ⟨l, hl⟩ : ∃ l, l = (byt D ((65536 : Nat) : Int)).2.2 := ⟨_, rfl⟩
  obtain ⟨st, hst⟩ : ∃ st, st = strOfNums l := ⟨_, rfl⟩
  have hG : getF (lst s) ah 1 x a = (W, a + N, { x with text := st }) := by
    show ((byt ((lst s).drop a) 65536).1, a + (byt ((lst s).drop a) 65536).2.1, _) = _
    rw [hst, hl, hW, hN, hD]; rfl
  have HC := Keep.mk (itext_good p s a 65536 65536 (by decide) w hI hb (by decide) D hD W hW N hN l hl st hst)
  have hsz : st.size ≤ 140737488355328 := by
    have hby : Byts D := by rw [hD]; exact (lst_byts s).drop a
    have hl2 := byt_l D ((65536 : Nat) : Int)
    rw [hst, str_size (by rw [hl]; exact hl2.2 hby), hl]
    have h1 := hl2.1
    have h2 : D.length ≤ s.size := by rw [hD, List.length_drop, lst_len]; omega
    omega
  have HOk : Keep (OpOk { x with text := st }) := ⟨{ hx with text := hsz }⟩
  clear hD hW hN hl hst
  have HGk := Keep.mk hG
  clear hI hb hX hx hG
  have hG := HGk.out
  clear hG
  go_enter Tryz.func144, Tryz.ntmps144
  refine wp_seq_k fun K1 hK1 => ?_
  refine wp_region_list (WL.out ?_)
  refine WL.val (by kernel_rfl) (.nilIface) (by go_simp) ?_
  simp only [Act.put, List.setIfInBounds_toArray, List.set_cons_zero, List.set_cons_succ]
  refine WL.nil ?_
  refine hK1 _ _ ?_
  refine wp_seq_k fun K2 hK2 => ?_
  refine wp_region_list (WL.out ?_)
  refine WL.val (by kernel_rfl) (.pointer (some ⟨p, 0, none⟩)) (by go_simp) ?_
  simp only [Act.put, List.setIfInBounds_toArray, List.set_cons_zero, List.set_cons_succ]
  refine WL.callF (by kernel_rfl) 141 _ _ rfl Tryz.in141 #[ptr p, .int .i64 65536] (by simp [Act.eval]) ?_
  refine (HC.out).mono ?_
  rintro e w1 ⟨bad, er, rfl, h1, h2, h3⟩
  refine ⟨_, rfl, ?_⟩
  have H1 := Keep.mk h1
  have H2 := Keep.mk h2
  have H3 := Keep.mk h3
  have HX1 := Keep.mk (h2.blk HX.out (fun e => Hne.out e.symm))
  have c1 := HX1.out.c 2 (opA_2 x)
  have f1 := HX1.out.frozen 2
  clear h1 h2 h3
  simp only [Act.put, List.setIfInBounds_toArray, List.set_cons_zero, List.set_cons_succ]
  refine WL.val (by kernel_rfl) (.tuple #[.string st, er]) (by go_simp) ?_
  simp only [Act.put, List.setIfInBounds_toArray, List.set_cons_zero, List.set_cons_succ]
  refine WL.val (by kernel_rfl) (.string st) (by go_simp) ?_
  simp only [Act.put, List.setIfInBounds_toArray, List.set_cons_zero, List.set_cons_succ]
  refine WL.val (by kernel_rfl) (er) (by go_simp) ?_
  simp only [Act.put, List.setIfInBounds_toArray, List.set_cons_zero, List.set_cons_succ]
  refine WL.val (by kernel_rfl) (.string st) (by go_simp) ?_
  simp only [Act.put, List.setIfInBounds_toArray, List.set_cons_zero, List.set_cons_succ]
  refine WL.val (by kernel_rfl) (er) (by go_simp) ?_
  simp only [Act.put, List.setIfInBounds_toArray, List.set_cons_zero, List.set_cons_succ]
  refine WL.nil ?_
  refine hK2 _ _ ?_
  refine wp_seq_k fun K3 hK3 => ?_
  refine wp_region_list (WL.out ?_)
  refine WL.val (by kernel_rfl) (.pointer (some ⟨g, 0, none⟩)) (by go_simp) ?_
  simp only [Act.put, List.setIfInBounds_toArray, List.set_cons_zero, List.set_cons_succ]
  refine WL.val (by kernel_rfl) (.string st) (by go_simp) ?_
  simp only [Act.put, List.setIfInBounds_toArray, List.set_cons_zero, List.set_cons_succ]
  refine WL.val (by kernel_rfl) (.pointer (some ⟨g, 0, none⟩)) (by go_simp) ?_
  simp only [Act.put, List.setIfInBounds_toArray, List.set_cons_zero, List.set_cons_succ]
  refine WL.val (by kernel_rfl) (.pointer (some ⟨g, 2, none⟩)) (by go_simp) ?_
  simp only [Act.put, List.setIfInBounds_toArray, List.set_cons_zero, List.set_cons_succ]
  refine WL.cell (by kernel_rfl) (w1.setCell ⟨g, 2, none⟩ (.string st)) (by go_simp) ?_
  simp only [Act.put]
  refine WL.nil ?_
  refine hK3 _ _ ?_
  refine wp_seq_k fun K4 hK4 => ?_
  refine wp_region_list (WL.out ?_)
  refine WL.val (by kernel_rfl) (er) (by go_simp) ?_
  simp only [Act.put, List.setIfInBounds_toArray, List.set_cons_zero, List.set_cons_succ]
  refine WL.val (by kernel_rfl) (er) (by go_simp) ?_
  simp only [Act.put, List.setIfInBounds_toArray, List.set_cons_zero, List.set_cons_succ]
  refine WL.nil ?_
  refine hK4 _ _ ?_
  refine wp_ret ?_
  go_ret
  have hXn := HX1.out.set 2 (.string st)
  rw [set_2] at hXn
  refine ⟨er, rfl, ?_, ?_⟩
  · exact (H2.out.mono fun _ _ h => .inl h).trans (Grown.setCell w1 g 2 _ fun _ => .inr rfl)
  · rw [HGk.out]
    rcases err_step H3.out (w' := w1.setCell ⟨g, 2, none⟩ (.string st)) (fun q hq => hq.set_ne (blk_ne hq HX1.out (by decide)) _) with ⟨h1, h2, h3⟩ | h
    · subst h3
      exact .inl ⟨h1, h2, ⟨H1.out.blk.set_ne (fun e => Hne.out e) _, H1.out.le⟩, hXn, HOk.out⟩
    · exact .inr h
theorem get2_any (p g : Nat) (s : ByteArray) (a : Nat) (x : OpV) (vA : Value) (ah : List OpV) (w : World) (hI : InAt w p s a none) (hb : s.size ≤ 140737488355328) (hX : Blk w g 188 (opA x)) (hx : OpOk x) :
    Calls Tryz.prog 148 #[ptr p, ptr g, vA] w (GetPost p g s (getF (lst s) ah 2 x a) w) := by
  have HI := Keep.mk hI
  have HX := Keep.mk hX
  have Hne : Keep (p ≠ g) := ⟨blk_ne hI.blk hX (by decide)⟩
  obtain ⟨R, hR⟩ : ∃ R, R = fstM ((lst s).drop a) 18446744073709551615 := ⟨_, rfl⟩
  obtain ⟨y, hy⟩ : ∃ y, y = if R.2.2 = 0 then zag R.1 else 0 := ⟨_, rfl⟩
  have hrg := fst_rng ((lst s).drop a) ((lst_byts s).drop a) 18446744073709551615 (by decide)
  rw [← hR] at hrg
  have hG : getF (lst s) ah 2 x a = (R.2.2, a + R.2.1.toNat, { x with n := y }) := by
    show ((fstM ((lst s).drop a) 18446744073709551615).2.2, _, _) = _
    rw [hy, hR]
  have HC := Keep.mk (isigned_good p s a w hI hb R hR y hy hrg.1 (by omega))
  have hyr : -9223372036854775808 ≤ y ∧ y ≤ 9223372036854775807 := by
    rw [hy]
    split
    · unfold zag; split <;> omega
    · omega
  have HOk : Keep (OpOk { x with n := y }) := ⟨{ hx with n1 := hyr.1, n2 := hyr.2 }⟩
  clear hR hy hrg hyr
  have HGk := Keep.mk hG
  clear hI hb hX hx hG
  have hG := HGk.out
  clear hG
  go_enter Tryz.func148, Tryz.ntmps148
  refine wp_seq_k fun K1 hK1 => ?_
  refine wp_region_list (WL.out ?_)
  refine WL.val (by kernel_rfl) (.nilIface) (by go_simp) ?_
  simp only [Act.put, List.setIfInBounds_toArray, List.set_cons_zero, List.set_cons_succ]
  refine WL.nil ?_
  refine hK1 _ _ ?_
  refine wp_seq_k fun K2 hK2 => ?_
  refine wp_region_list (WL.out ?_)
  refine WL.val (by kernel_rfl) (.pointer (some ⟨p, 0, none⟩)) (by go_simp) ?_
  simp only [Act.put, List.setIfInBounds_toArray, List.set_cons_zero, List.set_cons_succ]
  refine WL.callF (by kernel_rfl) 149 _ _ rfl Tryz.in149 #[ptr p] (by simp [Act.eval]) ?_
  refine (HC.out).mono ?_
  rintro e w1 ⟨bad, er, rfl, h1, h2, h3⟩
  refine ⟨_, rfl, ?_⟩
  have H1 := Keep.mk h1
  have H2 := Keep.mk h2
  have H3 := Keep.mk h3
  have HX1 := Keep.mk (h2.blk HX.out (fun e => Hne.out e.symm))
  have c1 := HX1.out.c 3 (opA_3 x)
  have f1 := HX1.out.frozen 3
  clear h1 h2 h3
  simp only [Act.put, List.setIfInBounds_toArray, List.set_cons_zero, List.set_cons_succ]
  refine WL.val (by kernel_rfl) (.tuple #[.int .i64 y, er]) (by go_simp) ?_
  simp only [Act.put, List.setIfInBounds_toArray, List.set_cons_zero, List.set_cons_succ]
  refine WL.val (by kernel_rfl) (.int .i64 y) (by go_simp) ?_
  simp only [Act.put, List.setIfInBounds_toArray, List.set_cons_zero, List.set_cons_succ]
  refine WL.val (by kernel_rfl) (er) (by go_simp) ?_
  simp only [Act.put, List.setIfInBounds_toArray, List.set_cons_zero, List.set_cons_succ]
  refine WL.val (by kernel_rfl) (.int .i64 y) (by go_simp) ?_
  simp only [Act.put, List.setIfInBounds_toArray, List.set_cons_zero, List.set_cons_succ]
  refine WL.val (by kernel_rfl) (er) (by go_simp) ?_
  simp only [Act.put, List.setIfInBounds_toArray, List.set_cons_zero, List.set_cons_succ]
  refine WL.nil ?_
  refine hK2 _ _ ?_
  refine wp_seq_k fun K3 hK3 => ?_
  refine wp_region_list (WL.out ?_)
  refine WL.val (by kernel_rfl) (.pointer (some ⟨g, 0, none⟩)) (by go_simp) ?_
  simp only [Act.put, List.setIfInBounds_toArray, List.set_cons_zero, List.set_cons_succ]
  refine WL.val (by kernel_rfl) (.int .i64 y) (by go_simp) ?_
  simp only [Act.put, List.setIfInBounds_toArray, List.set_cons_zero, List.set_cons_succ]
  refine WL.val (by kernel_rfl) (.pointer (some ⟨g, 0, none⟩)) (by go_simp) ?_
  simp only [Act.put, List.setIfInBounds_toArray, List.set_cons_zero, List.set_cons_succ]
  refine WL.val (by kernel_rfl) (.pointer (some ⟨g, 3, none⟩)) (by go_simp) ?_
  simp only [Act.put, List.setIfInBounds_toArray, List.set_cons_zero, List.set_cons_succ]
  refine WL.cell (by kernel_rfl) (w1.setCell ⟨g, 3, none⟩ (.int .i64 y)) (by go_simp) ?_
  simp only [Act.put]
  refine WL.nil ?_
  refine hK3 _ _ ?_
  refine wp_seq_k fun K4 hK4 => ?_
  refine wp_region_list (WL.out ?_)
  refine WL.val (by kernel_rfl) (er) (by go_simp) ?_
  simp only [Act.put, List.setIfInBounds_toArray, List.set_cons_zero, List.set_cons_succ]
  refine WL.val (by kernel_rfl) (er) (by go_simp) ?_
  simp only [Act.put, List.setIfInBounds_toArray, List.set_cons_zero, List.set_cons_succ]
  refine WL.nil ?_
  refine hK4 _ _ ?_
  refine wp_ret ?_
  go_ret
  have hXn := HX1.out.set 3 (.int .i64 y)
  rw [set_3] at hXn
  refine ⟨er, rfl, ?_, ?_⟩
  · exact (H2.out.mono fun _ _ h => .inl h).trans (Grown.setCell w1 g 3 _ fun _ => .inr rfl)
  · rw [HGk.out]
    rcases err_step H3.out (w' := w1.setCell ⟨g, 3, none⟩ (.int .i64 y)) (fun q hq => hq.set_ne (blk_ne hq HX1.out (by decide)) _) with ⟨h1, h2, h3⟩ | h
    · subst h3
      exact .inl ⟨h1, h2, ⟨H1.out.blk.set_ne (fun e => Hne.out e) _, H1.out.le⟩, hXn, HOk.out⟩
    · exact .inr h
set_option maxRecDepth 8000 in
set_option maxHeartbeats 2000000 in
theorem get3_any (p g : Nat) (s : ByteArray) (a : Nat) (x : OpV) (vA : Value) (ah : List OpV) (w : World) (hI : InAt w p s a none) (hb : s.size ≤ 140737488355328) (hX : Blk w g 188 (opA x)) (hx : OpOk x)
    (hA : ∀ wx, (Grown w wx fun k => k = p ∨ k = g) → OpsAt wx vA ah) (hal : ah.length ≤ 1024) :
    Calls Tryz.prog 152 #[ptr p, ptr g, vA] w (GetPost p g s (getF (lst s) ah 3 x a) w) := by
  have HI := Keep.mk hI
  have HX := Keep.mk hX
  have Hb := Keep.mk hb
  have HA := Keep.mk hA
  have HAl : Keep (ah.length ≤ 4398046511104) := ⟨by omega⟩
  have Hne : Keep (p ≠ g) := ⟨blk_ne hI.blk hX (by decide)⟩
  have hG : getF (lst s) ah 3 x a = getA (lst s) ah x a := rfl
  rw [hG]
  clear hG
  have hBy : Byts ((lst s).drop a) := (lst_byts s).drop a
  have hrg := fst_rng ((lst s).drop a) hBy 1024 (by decide)
  have hc := inum_good p s a 1024 w hI hb
  obtain ⟨G, hG⟩ : ∃ G, G = getA (lst s) ah x a := ⟨_, rfl⟩
  rw [← hG]
  unfold getA at hG
  have hc' : Calls Tryz.prog 45 #[ptr p, .int .u64 1024] w (RdPost p s (fstM ((lst s).drop a) 1024).2.2 (a + (fstM ((lst s).drop a) 1024).2.1.toNat) (.int .u64 (fstM ((lst s).drop a) 1024).1) w) := hc
  clear hc
  generalize fstM ((lst s).drop a) 1024 = R at *
  obtain ⟨rv, rn, re⟩ := R
  simp only at hG hc' hrg
  obtain ⟨a1, ha1⟩ : ∃ a1, a1 = a + rn.toNat := ⟨_, rfl⟩
  rw [← ha1] at hG hc'
  obtain ⟨D1, hD1⟩ : ∃ D1, D1 = (lst s).drop a1 := ⟨_, rfl⟩
  obtain ⟨W2, hW2⟩ : ∃ W2, W2 = nextW D1 32 := ⟨_, rfl⟩
  obtain ⟨N2, hN2⟩ : ∃ N2, N2 = nextN D1 32 := ⟨_, rfl⟩
  rw [← hD1, ← hW2, ← hN2] at hG
  have HC := Keep.mk hc'
  have Hrg := Keep.mk hrg
  have HD1 := Keep.mk hD1
  have HW2 := Keep.mk hW2
  have HN2 := Keep.mk hN2
  have HG1 : Keep (¬ re = 0 → G = (re, a1, x)) := ⟨fun h => by rw [hG, if_pos h]⟩
  have HG0 : Keep (re = 0 → rv = 0 → G = if mayAt ah { x with op := 0 } = true then (0, a1, { x with op := 0 }) else (42, a, x)) := ⟨fun h h2 => by rw [hG, if_neg (by simp [h]), if_pos h2]⟩
  have HGb : Keep (re = 0 → ¬ rv = 0 → ¬ W2 = 0 → G = (W2, a1 + N2, x)) := ⟨fun h h2 h3 => by rw [hG, if_neg (by simp [h]), if_neg h2, if_pos h3]⟩
  have HGn : Keep (re = 0 → ¬ rv = 0 → W2 = 0 → G = if mayAt ah { x with op := rv, node := D1.take 32 } = true then (0, a1 + 32, { x with op := rv, node := D1.take 32 }) else (42, a, x)) := ⟨fun h h2 h3 => by rw [hG, if_neg (by simp [h]), if_neg h2, if_neg (by simp [h3])]⟩
  have hN32 : W2 = 0 → N2 = 32 := fun h => by rw [hN2, (nextN_0 D1 32 (by rw [← hW2]; exact h)).1]; rfl
  have hlen : W2 = 0 → (D1.take 32).length = 32 := fun h => by
    have := (nextN_0 D1 32 (by rw [← hW2]; exact h)).2.2
    rw [List.length_take]; omega
  have hhl : W2 = 0 → hl 32 (hrd D1 W2) = D1.take 32 := fun h => by
    rw [← hl_hof (D1.take 32) (hlen h)]
    unfold hl
    apply List.map_congr_left
    intro i hi
    have hi' := List.mem_range.1 hi
    show (if W2 = 0 then D1.getD i 0 else 0) = (D1.take 32).getD i 0
    rw [if_pos h]
    simp [List.getD_eq_getElem?_getD, List.getElem?_take, hi']
  have hz1 : (-9223372036854775808 : Int) ≤ 0 := by decide
  have hz2 : (0 : Int) ≤ 9223372036854775807 := by decide
  have HOk0 : Keep (OpOk { x with op := 0 }) := ⟨{ hx with o1 := hz1, o2 := hz2 }⟩
  have hz3 : (-9223372036854775808 : Int) ≤ rv := by omega
  have hz4 : rv ≤ 9223372036854775807 := by omega
  have hz5 : Byts (D1.take 32) := by rw [hD1]; exact ((lst_byts s).drop a1).take 32
  have HOkn : Keep (W2 = 0 → OpOk { x with op := rv, node := D1.take 32 }) := ⟨fun h => { hx with o1 := hz3, o2 := hz4, node := hlen h, byts := hz5 }⟩
  clear hz1 hz2 hz3 hz4 hz5
  clear hI hb hX hx hA hal hBy hrg hc' hG ha1 hD1 hW2 hN2 hlen
  go_enter Tryz.func152, Tryz.ntmps152
  refine wp_seq_k fun K1 hK1 => ?_
  refine wp_region_list (WL.out ?_)
  refine WL.val (by kernel_rfl) (.nilIface) (by go_simp) ?_
  simp only [Act.put, List.setIfInBounds_toArray, List.set_cons_zero, List.set_cons_succ]
  refine WL.nil ?_
  refine hK1 _ _ ?_
  refine wp_seq_k fun K2 hK2 => ?_
  refine wp_region_list (WL.out ?_)
  refine WL.val (by kernel_rfl) (.pointer (some ⟨p, 0, none⟩)) (by go_simp) ?_
  simp only [Act.put, List.setIfInBounds_toArray, List.set_cons_zero, List.set_cons_succ]
  refine WL.callF (by kernel_rfl) 69 _ _ rfl Tryz.in69 #[ptr p] (by simp [Act.eval]) ?_
  refine (iat_any p s a none w HI.out).mono ?_
  rintro e w0 ⟨rfl, hw0⟩
  rw [hw0]
  clear hw0 w0
  refine ⟨_, rfl, ?_⟩
  simp only [Act.put, List.setIfInBounds_toArray, List.set_cons_zero, List.set_cons_succ]
  refine WL.val (by kernel_rfl) (.int .i64 (a : Int)) (by go_simp) ?_
  simp only [Act.put, List.setIfInBounds_toArray, List.set_cons_zero, List.set_cons_succ]
  refine WL.nil ?_
  refine hK2 _ _ ?_
  refine wp_seq_k fun K3 hK3 => ?_
  refine wp_region_list (WL.out ?_)
  refine WL.val (by kernel_rfl) (.pointer (some ⟨p, 0, none⟩)) (by go_simp) ?_
  simp only [Act.put, List.setIfInBounds_toArray, List.set_cons_zero, List.set_cons_succ]
  refine WL.callF (by kernel_rfl) 45 _ _ rfl Tryz.in45 #[ptr p, .int .u64 1024] (by simp [Act.eval]) ?_
  refine (HC.out).mono ?_
  rintro e w1 ⟨bad, er, rfl, h1, h2, h3⟩
  refine ⟨_, rfl, ?_⟩
  have HX1 := Keep.mk (h2.blk HX.out (fun e => Hne.out e.symm))
  have H1 := Keep.mk h1
  have H2 := Keep.mk h2
  have H3 := Keep.mk h3
  clear h1 h2 h3
  simp only [Act.put, List.setIfInBounds_toArray, List.set_cons_zero, List.set_cons_succ]
  refine WL.val (by kernel_rfl) (.tuple #[.int .u64 rv, er]) (by go_simp) ?_
  simp only [Act.put, List.setIfInBounds_toArray, List.set_cons_zero, List.set_cons_succ]
  refine WL.val (by kernel_rfl) (.int .u64 rv) (by go_simp) ?_
  simp only [Act.put, List.setIfInBounds_toArray, List.set_cons_zero, List.set_cons_succ]
  refine WL.val (by kernel_rfl) (er) (by go_simp) ?_
  simp only [Act.put, List.setIfInBounds_toArray, List.set_cons_zero, List.set_cons_succ]
  refine WL.val (by kernel_rfl) (.int .u64 rv) (by go_simp) ?_
  simp only [Act.put, List.setIfInBounds_toArray, List.set_cons_zero, List.set_cons_succ]
  refine WL.val (by kernel_rfl) (er) (by go_simp) ?_
  simp only [Act.put, List.setIfInBounds_toArray, List.set_cons_zero, List.set_cons_succ]
  refine WL.nil ?_
  refine hK3 _ _ ?_
  refine wp_seq_k fun K4 hK4 => ?_
  refine wp_seq_k fun K5 hK5 => ?_
  by_cases hE : re = 0
  · rcases H3.out with ⟨e1, rfl, rfl⟩ | ⟨e1, _⟩
    rotate_left
    · exact absurd hE e1
    have c36 := HX1.out.c 36 (opA_36 x)
    have f36 := HX1.out.frozen 36
    have hwn : IntKind.i64.wrap rv = rv := by rw [IntKind.wrap_i64]; have := Hrg.out; omega
    refine wp_region_list (WL.out ?_)
    refine WL.val (by kernel_rfl) (.nilIface) (by go_simp) ?_
    simp only [Act.put, List.setIfInBounds_toArray, List.set_cons_zero, List.set_cons_succ]
    refine WL.val (by kernel_rfl) (.bool false) (by go_simp) ?_
    simp only [Act.put, List.setIfInBounds_toArray, List.set_cons_zero, List.set_cons_succ]
    refine WL.nil ?_
    refine hK5 _ _ ?_
    refine wp_cond_false rfl ?_
    refine wp_skip ?_
    refine hK4 _ _ ?_
    refine wp_seq_k fun K6 hK6 => ?_
    refine wp_region_list (WL.out ?_)
    refine WL.val (by kernel_rfl) (.pointer (some ⟨g, 0, none⟩)) (by go_simp) ?_
    simp only [Act.put, List.setIfInBounds_toArray, List.set_cons_zero, List.set_cons_succ]
    refine WL.val (by kernel_rfl) (.int .u64 rv) (by go_simp) ?_
    simp only [Act.put, List.setIfInBounds_toArray, List.set_cons_zero, List.set_cons_succ]
    refine WL.val (by kernel_rfl) (.int .i64 rv) (by go_simp) ?_
    simp only [Act.put, List.setIfInBounds_toArray, List.set_cons_zero, List.set_cons_succ]
    refine WL.val (by kernel_rfl) (.pointer (some ⟨g, 0, none⟩)) (by go_simp) ?_
    simp only [Act.put, List.setIfInBounds_toArray, List.set_cons_zero, List.set_cons_succ]
    refine WL.val (by kernel_rfl) (.pointer (some ⟨g, 4, none⟩)) (by go_simp) ?_
    simp only [Act.put, List.setIfInBounds_toArray, List.set_cons_zero, List.set_cons_succ]
    refine WL.val (by kernel_rfl) (.pointer (some ⟨g, 36, none⟩)) (by go_simp) ?_
    simp only [Act.put, List.setIfInBounds_toArray, List.set_cons_zero, List.set_cons_succ]
    refine WL.cell (by kernel_rfl) (w1.setCell ⟨g, 36, none⟩ (.int .i64 rv)) (by go_simp) ?_
    have HX2 := Keep.mk (HX1.out.set 36 (.int .i64 rv))
    rw [set_36] at HX2
    have HI2 : Keep (InAt (w1.setCell ⟨g, 36, none⟩ (.int .i64 rv)) p s a1 none) := ⟨H1.out.blk.set_ne (fun e => Hne.out e) _, H1.out.le⟩
    have HG2 : Keep (Grown w (w1.setCell ⟨g, 36, none⟩ (.int .i64 rv)) fun k => k = p ∨ k = g) := ⟨(H2.out.mono fun _ _ h => .inl h).trans (Grown.setCell w1 g 36 _ fun _ => .inr rfl)⟩
    generalize w1.setCell ⟨g, 36, none⟩ (.int .i64 rv) = w2 at *
    clear c36 f36
    simp only [Act.put]
    refine WL.nil ?_
    refine hK6 _ _ ?_
    refine wp_seq_k fun K7 hK7 => ?_
    refine wp_seq_k fun K8 hK8 => ?_
    refine wp_region_list (WL.out ?_)
    refine WL.val (by kernel_rfl) (.int .u64 rv) (by go_simp) ?_
    simp only [Act.put, List.setIfInBounds_toArray, List.set_cons_zero, List.set_cons_succ]
    by_cases h6_1 : rv = 0
    · skip
      refine WL.val (by kernel_rfl) (.bool false) (by go_simp) ?_
      simp only [Act.put, List.setIfInBounds_toArray, List.set_cons_zero, List.set_cons_succ]
      refine WL.nil ?_
      refine hK8 _ _ ?_
      refine wp_cond_false rfl ?_
      refine wp_skip ?_
      refine hK7 _ _ ?_
      refine wp_seq_k fun K9 hK9 => ?_
      refine wp_seq_k fun K10 hK10 => ?_
      refine wp_region_list (WL.out ?_)
      refine WL.val (by kernel_rfl) (.pointer (some ⟨g, 0, none⟩)) (by go_simp) ?_
      simp only [Act.put, List.setIfInBounds_toArray, List.set_cons_zero, List.set_cons_succ]
      refine WL.val (by kernel_rfl) (.pointer (some ⟨g, 0, none⟩)) (by go_simp) ?_
      simp only [Act.put, List.setIfInBounds_toArray, List.set_cons_zero, List.set_cons_succ]
      have hrv0 := h6_1
      obtain ⟨x2, hx2⟩ : ∃ x2 : OpV, Keep (x2 = { x with op := 0 }) := ⟨_, ⟨rfl⟩⟩
      rw [h6_1] at HX2
      rw [← hx2.out] at HX2
      have HOk5 : Keep (OpOk x2) := ⟨by rw [hx2.out]; exact HOk0.out⟩
      refine WL.row (by kernel_rfl) 188 (.tmp 44) rfl g rfl 188 (opA x2) _ HX2.out Tryz.underlying188 rfl (Tryz.size188B x2) ?_
      simp only [Act.put, List.setIfInBounds_toArray, List.set_cons_zero, List.set_cons_succ]
      refine WL.val (by kernel_rfl) (vA) (by go_simp) ?_
      simp only [Act.put, List.setIfInBounds_toArray, List.set_cons_zero, List.set_cons_succ]
      refine WL.callF (by kernel_rfl) 155 _ _ rfl Tryz.in155 #[.agg (opA x2), vA] (by simp [Act.eval]) ?_
      refine (may_any x2 vA ah w2 HOk5.out (HA.out w2 HG2.out) HAl.out).mono ?_
      rintro e w6 ⟨rfl, h6⟩
      refine ⟨_, rfl, ?_⟩
      have HX6 := Keep.mk (HX2.out.below h6 HX2.out.lt)
      have HI6 : Keep (InAt w6 p s _ none) := ⟨HI2.out.blk.below h6 HI2.out.blk.lt, HI2.out.le⟩
      have HG6 : Keep (Grown w w6 fun k => k = p ∨ k = g) := ⟨HG2.out.trans (Grown.below h6)⟩
      clear h6
      simp only [Act.put, List.setIfInBounds_toArray, List.set_cons_zero, List.set_cons_succ]
      rcases Bool.eq_false_or_eq_true (!mayAt ah x2) with h11_5 | h11_5
      · have hmy : mayAt ah x2 = false := by simpa using h11_5
        refine WL.val (by kernel_rfl) (.bool true) (by go_simp) ?_
        simp only [Act.put, List.setIfInBounds_toArray, List.set_cons_zero, List.set_cons_succ]
        refine WL.nil ?_
        refine hK10 _ _ ?_
        refine wp_cond_true rfl ?_
        refine wp_seq_k fun K11 hK11 => ?_
        refine wp_region_list (WL.out ?_)
        refine WL.val (by kernel_rfl) (.int .i64 (a : Int)) (by go_simp) ?_
        simp only [Act.put, List.setIfInBounds_toArray, List.set_cons_zero, List.set_cons_succ]
        refine WL.bld (by kernel_rfl) 123 _ rfl [(0, .int .i64 42), (1, .int .i64 (a : Int))] (by simp [Act.eval]) #[.int .i64 42, .int .i64 (a : Int)] (by kernel_rfl) ?_
        simp only [Act.put, List.setIfInBounds_toArray, List.set_cons_zero, List.set_cons_succ]
        refine WL.box (by kernel_rfl) 123 (.tmp 50) rfl #[.int .i64 42, .int .i64 (a : Int)] rfl ?_
        simp only [Act.put, List.setIfInBounds_toArray, List.set_cons_zero, List.set_cons_succ]
        refine WL.val (by kernel_rfl) (.iface 121 (.pointer (some ⟨w6.heap.size, 0, none⟩))) (by go_simp) ?_
        simp only [Act.put, List.setIfInBounds_toArray, List.set_cons_zero, List.set_cons_succ]
        refine WL.val (by kernel_rfl) (.iface 121 (.pointer (some ⟨w6.heap.size, 0, none⟩))) (by go_simp) ?_
        simp only [Act.put, List.setIfInBounds_toArray, List.set_cons_zero, List.set_cons_succ]
        refine WL.nil ?_
        refine hK11 _ _ ?_
        refine wp_ret ?_
        go_ret
        exact ⟨err w6.heap.size, rfl, HG6.out.trans (Grown.alloc w6 _ _), by rw [HG0.out hE hrv0, ← hx2.out, if_neg (by rw [hmy]; decide)]; exact .inr ⟨(show (42 : Int) ≠ 0 by decide), _, HG6.out.size, rfl, Blk.new w6 123 _⟩⟩
      · have hmy : mayAt ah x2 = true := by simpa using h11_5
        refine WL.val (by kernel_rfl) (.bool false) (by go_simp) ?_
        simp only [Act.put, List.setIfInBounds_toArray, List.set_cons_zero, List.set_cons_succ]
        refine WL.nil ?_
        refine hK10 _ _ ?_
        refine wp_cond_false rfl ?_
        refine wp_skip ?_
        refine hK9 _ _ ?_
        refine wp_seq_k fun K12 hK12 => ?_
        refine wp_region_list (WL.out ?_)
        refine WL.val (by kernel_rfl) (.nilIface) (by go_simp) ?_
        simp only [Act.put, List.setIfInBounds_toArray, List.set_cons_zero, List.set_cons_succ]
        refine WL.nil ?_
        refine hK12 _ _ ?_
        refine wp_ret ?_
        go_ret
        exact ⟨.nilIface, rfl, HG6.out, by rw [HG0.out hE hrv0, ← hx2.out, if_pos hmy]; exact .inl ⟨rfl, rfl, HI6.out, HX6.out, HOk5.out⟩⟩
    · skip
      refine WL.val (by kernel_rfl) (.bool true) (by go_simp) ?_
      simp only [Act.put, List.setIfInBounds_toArray, List.set_cons_zero, List.set_cons_succ]
      refine WL.nil ?_
      refine hK8 _ _ ?_
      refine wp_cond_true rfl ?_
      refine wp_seq_k fun K13 hK13 => ?_
      refine wp_region_list (WL.out ?_)
      refine WL.val (by kernel_rfl) (.pointer (some ⟨p, 0, none⟩)) (by go_simp) ?_
      simp only [Act.put, List.setIfInBounds_toArray, List.set_cons_zero, List.set_cons_succ]
      refine WL.callF (by kernel_rfl) 77 _ _ rfl Tryz.in77 #[ptr p] (by simp [Act.eval]) ?_
      refine (ihash_good p s a1 w2 HI2.out Hb.out D1 HD1.out W2 HW2.out N2 HN2.out).mono ?_
      rintro e w3 ⟨bad3, er3, rfl, h1, h2, h3⟩
      refine ⟨_, rfl, ?_⟩
      have HX3 := Keep.mk (h2.blk HX2.out (fun e => Hne.out e.symm))
      have I1 := Keep.mk h1
      have I2 := Keep.mk h2
      have I3 := Keep.mk h3
      have HG3 : Keep (Grown w w3 fun k => k = p ∨ k = g) := ⟨HG2.out.trans (h2.mono fun _ _ h => .inl h)⟩
      clear h1 h2 h3
      simp only [Act.put, List.setIfInBounds_toArray, List.set_cons_zero, List.set_cons_succ]
      refine WL.val (by kernel_rfl) (.tuple #[.agg (bytesA 32 (hrd D1 W2)), er3]) (by go_simp) ?_
      simp only [Act.put, List.setIfInBounds_toArray, List.set_cons_zero, List.set_cons_succ]
      refine WL.val (by kernel_rfl) (.agg (bytesA 32 (hrd D1 W2))) (by go_simp) ?_
      simp only [Act.put, List.setIfInBounds_toArray, List.set_cons_zero, List.set_cons_succ]
      refine WL.val (by kernel_rfl) (er3) (by go_simp) ?_
      simp only [Act.put, List.setIfInBounds_toArray, List.set_cons_zero, List.set_cons_succ]
      refine WL.new (by kernel_rfl) 50 rfl _ Tryz.new50 ?_
      simp only [Act.put, List.setIfInBounds_toArray, List.set_cons_zero, List.set_cons_succ]
      refine WL.storeR (by kernel_rfl) 50 (.tmp 10) (.tmp 33) rfl w3.heap.size (bytesA 32 (hrd D1 W2)) rfl rfl 50 (bytesA 32 fun _ => 0) (Blk.new w3 50 _) (Tryz.size50B _) (bytesA_sizes _ _ _) (bytesA_one _ _) ?_
      have HV4 := Keep.mk ((Blk.new w3 50 (bytesA 32 fun _ => 0)).setRow (bytesA 32 (hrd D1 W2)))
      have B4 : Keep (Below w3.heap.size w3 ((w3.alloc (.cells (bytesA 32 fun _ => 0) 50)).setRow w3.heap.size (bytesA 32 (hrd D1 W2)))) := ⟨below_setRow (below_new w3 _) (Nat.le_refl _) _⟩
      generalize (w3.alloc (.cells (bytesA 32 fun _ => 0) 50)).setRow w3.heap.size (bytesA 32 (hrd D1 W2)) = w4 at *
      have HX4 := Keep.mk (HX3.out.below B4.out HX3.out.lt)
      have HG4 : Keep (Grown w w4 fun k => k = p ∨ k = g) := ⟨HG3.out.trans (Grown.below B4.out)⟩
      simp only [Act.put]
      refine WL.val (by kernel_rfl) (er3) (by go_simp) ?_
      simp only [Act.put, List.setIfInBounds_toArray, List.set_cons_zero, List.set_cons_succ]
      refine WL.nil ?_
      refine hK13 _ _ ?_
      refine wp_seq_k fun K14 hK14 => ?_
      refine wp_seq_k fun K15 hK15 => ?_
      by_cases hE2 : W2 = 0
      · rcases I3.out with ⟨e1, rfl, rfl⟩ | ⟨e1, _⟩
        rotate_left
        · exact absurd hE2 e1
        have HI4 : Keep (InAt w4 p s (a1 + N2) none) := ⟨I1.out.blk.below B4.out I1.out.blk.lt, I1.out.le⟩
        refine wp_region_list (WL.out ?_)
        refine WL.val (by kernel_rfl) (.nilIface) (by go_simp) ?_
        simp only [Act.put, List.setIfInBounds_toArray, List.set_cons_zero, List.set_cons_succ]
        refine WL.val (by kernel_rfl) (.bool false) (by go_simp) ?_
        simp only [Act.put, List.setIfInBounds_toArray, List.set_cons_zero, List.set_cons_succ]
        refine WL.nil ?_
        refine hK15 _ _ ?_
        refine wp_cond_false rfl ?_
        refine wp_skip ?_
        refine hK14 _ _ ?_
        refine wp_region_list (WL.out ?_)
        refine WL.val (by kernel_rfl) (.pointer (some ⟨g, 0, none⟩)) (by go_simp) ?_
        simp only [Act.put, List.setIfInBounds_toArray, List.set_cons_zero, List.set_cons_succ]
        refine WL.row (by kernel_rfl) 50 (.tmp 10) rfl w3.heap.size rfl 50 (bytesA 32 (hrd D1 W2)) _ HV4.out Tryz.underlying50 rfl (Tryz.size50B _) ?_
        simp only [Act.put, List.setIfInBounds_toArray, List.set_cons_zero, List.set_cons_succ]
        refine WL.val (by kernel_rfl) (.pointer (some ⟨g, 0, none⟩)) (by go_simp) ?_
        simp only [Act.put, List.setIfInBounds_toArray, List.set_cons_zero, List.set_cons_succ]
        refine WL.val (by kernel_rfl) (.pointer (some ⟨g, 4, none⟩)) (by go_simp) ?_
        simp only [Act.put, List.setIfInBounds_toArray, List.set_cons_zero, List.set_cons_succ]
        refine WL.val (by kernel_rfl) (.pointer (some ⟨g, 4, none⟩)) (by go_simp) ?_
        simp only [Act.put, List.setIfInBounds_toArray, List.set_cons_zero, List.set_cons_succ]
        refine WL.part (by kernel_rfl) 50 (.tmp 42) (.tmp 39) rfl g 4 (bytesA 32 (hrd D1 W2)) rfl rfl 188 (opA { x with op := rv }) HX4.out (Tryz.size50B _) (by rw [bytesA_size, opA_size]; decide) (bytesA_one _ _) _ (put_node { x with op := rv } (hrd D1 W2)) ?_
        have HX5 := Keep.mk (HX4.out.setRow (opA { x with op := rv, node := hl 32 (hrd D1 W2) }))
        have HI5 : Keep (InAt (w4.setRow g (opA { x with op := rv, node := hl 32 (hrd D1 W2) })) p s (a1 + N2) none) := ⟨HI4.out.blk.setRow_ne (fun e => Hne.out e) _, HI4.out.le⟩
        have HG5 : Keep (Grown w (w4.setRow g (opA { x with op := rv, node := hl 32 (hrd D1 W2) })) fun k => k = p ∨ k = g) := ⟨HG4.out.trans (Grown.setRow w4 g _ fun _ => .inr rfl)⟩
        rw [hhl hE2] at HX5 HI5 HG5 ⊢
        obtain ⟨x2, hx2⟩ : ∃ x2 : OpV, Keep (x2 = { x with op := rv, node := D1.take 32 }) := ⟨_, ⟨rfl⟩⟩
        rw [← hx2.out] at HX5 HI5 HG5 ⊢
        generalize w4.setRow g (opA x2) = w5 at *
        have HOk5 : Keep (OpOk x2) := ⟨by rw [hx2.out]; exact HOkn.out hE2⟩
        simp only [Act.put]
        refine WL.nil ?_
        refine hK7 _ _ ?_
        refine wp_seq_k fun K16 hK16 => ?_
        refine wp_seq_k fun K17 hK17 => ?_
        refine wp_region_list (WL.out ?_)
        refine WL.val (by kernel_rfl) (.pointer (some ⟨g, 0, none⟩)) (by go_simp) ?_
        simp only [Act.put, List.setIfInBounds_toArray, List.set_cons_zero, List.set_cons_succ]
        refine WL.val (by kernel_rfl) (.pointer (some ⟨g, 0, none⟩)) (by go_simp) ?_
        simp only [Act.put, List.setIfInBounds_toArray, List.set_cons_zero, List.set_cons_succ]
        refine WL.row (by kernel_rfl) 188 (.tmp 44) rfl g rfl 188 (opA x2) _ HX5.out Tryz.underlying188 rfl (Tryz.size188B x2) ?_
        simp only [Act.put, List.setIfInBounds_toArray, List.set_cons_zero, List.set_cons_succ]
        refine WL.val (by kernel_rfl) (vA) (by go_simp) ?_
        simp only [Act.put, List.setIfInBounds_toArray, List.set_cons_zero, List.set_cons_succ]
        refine WL.callF (by kernel_rfl) 155 _ _ rfl Tryz.in155 #[.agg (opA x2), vA] (by simp [Act.eval]) ?_
        refine (may_any x2 vA ah w5 HOk5.out (HA.out w5 HG5.out) HAl.out).mono ?_
        rintro e w6 ⟨rfl, h6⟩
        refine ⟨_, rfl, ?_⟩
        have HX6 := Keep.mk (HX5.out.below h6 HX5.out.lt)
        have HI6 : Keep (InAt w6 p s _ none) := ⟨HI5.out.blk.below h6 HI5.out.blk.lt, HI5.out.le⟩
        have HG6 : Keep (Grown w w6 fun k => k = p ∨ k = g) := ⟨HG5.out.trans (Grown.below h6)⟩
        clear h6
        simp only [Act.put, List.setIfInBounds_toArray, List.set_cons_zero, List.set_cons_succ]
        rcases Bool.eq_false_or_eq_true (!mayAt ah x2) with h11_5 | h11_5
        · have hmy : mayAt ah x2 = false := by simpa using h11_5
          refine WL.val (by kernel_rfl) (.bool true) (by go_simp) ?_
          simp only [Act.put, List.setIfInBounds_toArray, List.set_cons_zero, List.set_cons_succ]
          refine WL.nil ?_
          refine hK17 _ _ ?_
          refine wp_cond_true rfl ?_
          refine wp_seq_k fun K18 hK18 => ?_
          refine wp_region_list (WL.out ?_)
          refine WL.val (by kernel_rfl) (.int .i64 (a : Int)) (by go_simp) ?_
          simp only [Act.put, List.setIfInBounds_toArray, List.set_cons_zero, List.set_cons_succ]
          refine WL.bld (by kernel_rfl) 123 _ rfl [(0, .int .i64 42), (1, .int .i64 (a : Int))] (by simp [Act.eval]) #[.int .i64 42, .int .i64 (a : Int)] (by kernel_rfl) ?_
          simp only [Act.put, List.setIfInBounds_toArray, List.set_cons_zero, List.set_cons_succ]
          refine WL.box (by kernel_rfl) 123 (.tmp 50) rfl #[.int .i64 42, .int .i64 (a : Int)] rfl ?_
          simp only [Act.put, List.setIfInBounds_toArray, List.set_cons_zero, List.set_cons_succ]
          refine WL.val (by kernel_rfl) (.iface 121 (.pointer (some ⟨w6.heap.size, 0, none⟩))) (by go_simp) ?_
          simp only [Act.put, List.setIfInBounds_toArray, List.set_cons_zero, List.set_cons_succ]
          refine WL.val (by kernel_rfl) (.iface 121 (.pointer (some ⟨w6.heap.size, 0, none⟩))) (by go_simp) ?_
          simp only [Act.put, List.setIfInBounds_toArray, List.set_cons_zero, List.set_cons_succ]
          refine WL.nil ?_
          refine hK18 _ _ ?_
          refine wp_ret ?_
          go_ret
          exact ⟨err w6.heap.size, rfl, HG6.out.trans (Grown.alloc w6 _ _), by rw [HGn.out hE h6_1 hE2, ← hx2.out, if_neg (by rw [hmy]; decide)]; exact .inr ⟨(show (42 : Int) ≠ 0 by decide), _, HG6.out.size, rfl, Blk.new w6 123 _⟩⟩
        · have hmy : mayAt ah x2 = true := by simpa using h11_5
          refine WL.val (by kernel_rfl) (.bool false) (by go_simp) ?_
          simp only [Act.put, List.setIfInBounds_toArray, List.set_cons_zero, List.set_cons_succ]
          refine WL.nil ?_
          refine hK17 _ _ ?_
          refine wp_cond_false rfl ?_
          refine wp_skip ?_
          refine hK16 _ _ ?_
          refine wp_seq_k fun K19 hK19 => ?_
          refine wp_region_list (WL.out ?_)
          refine WL.val (by kernel_rfl) (.nilIface) (by go_simp) ?_
          simp only [Act.put, List.setIfInBounds_toArray, List.set_cons_zero, List.set_cons_succ]
          refine WL.nil ?_
          refine hK19 _ _ ?_
          refine wp_ret ?_
          go_ret
          exact ⟨.nilIface, rfl, HG6.out, by rw [HGn.out hE h6_1 hE2, ← hx2.out, if_pos hmy]; exact .inl ⟨rfl, rfl, by have h := HI6.out; rw [hN32 hE2] at h; exact h, HX6.out, HOk5.out⟩⟩
      · rcases I3.out with ⟨e1, _, _⟩ | ⟨_, q, hq, rfl, rfl, hbad⟩
        · exact absurd e1 hE2
        have Hbad := Keep.mk (hbad.below B4.out hbad.lt)
        have Hq := Keep.mk (Nat.le_trans HG2.out.size hq)
        clear hbad hq
        unfold err
        refine wp_region_list (WL.out ?_)
        refine WL.val (by kernel_rfl) (.iface 121 (ptr q)) (by go_simp) ?_
        simp only [Act.put, List.setIfInBounds_toArray, List.set_cons_zero, List.set_cons_succ]
        refine WL.val (by kernel_rfl) (.bool true) (by go_simp) ?_
        simp only [Act.put, List.setIfInBounds_toArray, List.set_cons_zero, List.set_cons_succ]
        refine WL.nil ?_
        refine hK15 _ _ ?_
        refine wp_cond_true rfl ?_
        refine wp_seq_k fun K20 hK20 => ?_
        refine wp_region_list (WL.out ?_)
        refine WL.val (by kernel_rfl) (.iface 121 (ptr q)) (by go_simp) ?_
        simp only [Act.put, List.setIfInBounds_toArray, List.set_cons_zero, List.set_cons_succ]
        refine WL.val (by kernel_rfl) (.iface 121 (ptr q)) (by go_simp) ?_
        simp only [Act.put, List.setIfInBounds_toArray, List.set_cons_zero, List.set_cons_succ]
        refine WL.nil ?_
        refine hK20 _ _ ?_
        refine wp_ret ?_
        go_ret
        exact ⟨err q, rfl, HG4.out, by rw [HGb.out hE h6_1 hE2]; exact .inr ⟨hE2, q, Hq.out, rfl, Hbad.out⟩⟩
  · rcases H3.out with ⟨e1, _, _⟩ | ⟨_, q, hq, rfl, rfl, hbad⟩
    · exact absurd e1 hE
    have Hbad := Keep.mk hbad
    clear hbad
    unfold err
    refine wp_region_list (WL.out ?_)
    refine WL.val (by kernel_rfl) (.iface 121 (ptr q)) (by go_simp) ?_
    simp only [Act.put, List.setIfInBounds_toArray, List.set_cons_zero, List.set_cons_succ]
    refine WL.val (by kernel_rfl) (.bool true) (by go_simp) ?_
    simp only [Act.put, List.setIfInBounds_toArray, List.set_cons_zero, List.set_cons_succ]
    refine WL.nil ?_
    refine hK5 _ _ ?_
    refine wp_cond_true rfl ?_
    refine wp_seq_k fun K21 hK21 => ?_
    refine wp_region_list (WL.out ?_)
    refine WL.val (by kernel_rfl) (.iface 121 (ptr q)) (by go_simp) ?_
    simp only [Act.put, List.setIfInBounds_toArray, List.set_cons_zero, List.set_cons_succ]
    refine WL.val (by kernel_rfl) (.iface 121 (ptr q)) (by go_simp) ?_
    simp only [Act.put, List.setIfInBounds_toArray, List.set_cons_zero, List.set_cons_succ]
    refine WL.nil ?_
    refine hK21 _ _ ?_
    refine wp_ret ?_
    go_ret
    exact ⟨err q, rfl, H2.out.mono fun _ _ h => .inl h, by rw [HG1.out hE]; exact .inr ⟨hE, q, hq, rfl, Hbad.out⟩⟩

end Go.Proofs.YtdkhjeofjhcceaaGreatDoor.Nd
namespace Go.Proofs.YtdkhjeofjhcceaaGreatDoor.Nd
open Go.RowKit
set_option linter.unusedSimpArgs false

def getFs (L : List Int) (ah : List OpV) : List Nat → OpV → Nat → Int × Nat × OpV
  | [], x, a => (0, a, x)
  | i :: is, x, a => if (getF L ah i x a).1 = 0 then getFs L ah is (getF L ah i x a).2.2 (getF L ah i x a).2.1 else getF L ah i x a
def getO (L : List Int) (ah : List OpV) (a : Nat) : Int × Nat × OpV :=
  if nextW (L.drop a) 1 ≠ 0 then (nextW (L.drop a) 1, a + nextN (L.drop a) 1, zeroOp)
  else if hasI ((L.drop a).getD 0 0) = [] then (40, a, zeroOp)
  else getFs L ah (hasI ((L.drop a).getD 0 0)) { zeroOp with kind := (L.drop a).getD 0 0 } (a + 1)
def OnePost (p : Nat) (s : ByteArray) (R : Int × Nat × OpV) (w : World) (e : Ending) (w' : World) : Prop :=
  ∃ x er, e = .returned (.tuple #[.agg (opA x), er]) ∧ (Grown w w' fun k => k = p) ∧
    ((R.1 = 0 ∧ x = R.2.2 ∧ er = .nilIface ∧ InAt w' p s R.2.1 none ∧ OpOk R.2.2) ∨ (R.1 ≠ 0 ∧ ∃ q, w.heap.size ≤ q ∧ er = err q ∧ BadAt w' q R.1 R.2.1))
theorem zero_ok : OpOk zeroOp := ⟨z32_len, z32_byts, by decide, by decide, by decide, by decide, by decide, by decide, by decide, by decide⟩
theorem zero_built (k : Int) : Tryz.prog.built 188 [(0, .int .i64 k)] = some (opA { zeroOp with kind := k }) := by kernel_rfl
theorem getFs_step (L : List Int) (ah : List OpV) (is : List Nat) (t : Nat) (ht : t < is.length) (x : OpV) (a : Nat) : getFs L ah (is.drop t) x a = if (getF L ah (is.getD t 0) x a).1 = 0 then getFs L ah (is.drop (t + 1)) (getF L ah (is.getD t 0) x a).2.2 (getF L ah (is.getD t 0) x a).2.1 else getF L ah (is.getD t 0) x a := by
  rw [List.drop_eq_getElem_cons ht, getFs]
  rw [show is.getD t 0 = is[t] by simp [List.getD_eq_getElem?_getD, ht]]
set_option maxRecDepth 8000 in
set_option maxHeartbeats 4000000 in
theorem getOne_any (p m : Nat) (s : ByteArray) (a : Nat) (vA : Value) (ah : List OpV) (w : World) (hI : InAt w p s a none) (hb : s.size ≤ 140737488355328) (hT : TabAt w m)
    (hA : ∀ wx, (Grown w wx fun k => k = p) → OpsAt wx vA ah) (hal : ah.length ≤ 1024) :
    Calls Tryz.prog 111 #[ptr p, .map (some m), vA] w (OnePost p s (getO (lst s) ah a) w) := by
  have HI := Keep.mk hI
  have HT := Keep.mk hT
  have Hb := Keep.mk hb
  have HA := Keep.mk hA
  have Hal := Keep.mk hal
  obtain ⟨R, hR⟩ : ∃ R, R = getO (lst s) ah a := ⟨_, rfl⟩
  rw [← hR]
  unfold getO at hR
  obtain ⟨D, hD⟩ : ∃ D, Keep (D = (lst s).drop a) := ⟨_, ⟨rfl⟩⟩
  obtain ⟨W, hW⟩ : ∃ W, Keep (W = nextW D 1) := ⟨_, ⟨rfl⟩⟩
  obtain ⟨N, hN⟩ : ∃ N, Keep (N = nextN D 1) := ⟨_, ⟨rfl⟩⟩
  obtain ⟨c, hc⟩ : ∃ c, Keep (c = if W = 0 then D.getD 0 0 else 0) := ⟨_, ⟨rfl⟩⟩
  rw [← hD.out, ← hW.out, ← hN.out] at hR
  have HcD : Keep (W = 0 → D.getD 0 0 = c) := ⟨fun h => by rw [hc.out, if_pos h]⟩
  have HR := Keep.mk hR
  clear hI hb hT hA hal hR
  go_enter Tryz.func111, Tryz.ntmps111
  refine wp_seq_k fun K1 hK1 => ?_
  refine wp_region_list (WL.out ?_)
  refine WL.new (by kernel_rfl) 188 rfl _ Tryz.new188 ?_
  have HZ0 := Keep.mk (Blk.new w 188 (opA zeroOp))
  have HG0 : Keep (Grown w (w.alloc (.cells (opA zeroOp) 188)) fun k => k = p) := ⟨Grown.alloc w _ _⟩
  have HI0 : Keep (InAt (w.alloc (.cells (opA zeroOp) 188)) p s a none) := ⟨HI.out.box _⟩
  have HT0 := Keep.mk (HT.out.below (below_new w (.cells (opA zeroOp) 188)))
  obtain ⟨gz, hgz⟩ : ∃ gz, Keep (gz = w.heap.size) := ⟨_, ⟨rfl⟩⟩
  have Hgz : Keep (w.heap.size ≤ gz) := ⟨Nat.le_of_eq hgz.out.symm⟩
  rw [← hgz.out] at HZ0 ⊢
  generalize w.alloc (.cells (opA zeroOp) 188) = w0 at *
  simp only [Act.put, List.setIfInBounds_toArray, List.set_cons_zero, List.set_cons_succ]
  refine WL.val (by kernel_rfl) (.nilIface) (by go_simp) ?_
  simp only [Act.put, List.setIfInBounds_toArray, List.set_cons_zero, List.set_cons_succ]
  refine WL.nil ?_
  refine hK1 _ _ ?_
  refine wp_seq_k fun K2 hK2 => ?_
  refine wp_region_list (WL.out ?_)
  refine WL.val (by kernel_rfl) (.pointer (some ⟨p, 0, none⟩)) (by go_simp) ?_
  simp only [Act.put, List.setIfInBounds_toArray, List.set_cons_zero, List.set_cons_succ]
  refine WL.callF (by kernel_rfl) 69 _ _ rfl Tryz.in69 #[ptr p] (by simp [Act.eval]) ?_
  refine (iat_any p s a none w0 HI0.out).mono ?_
  rintro e w0' ⟨rfl, hw0⟩
  rw [hw0]
  clear hw0 w0'
  refine ⟨_, rfl, ?_⟩
  simp only [Act.put, List.setIfInBounds_toArray, List.set_cons_zero, List.set_cons_succ]
  refine WL.val (by kernel_rfl) (.int .i64 (a : Int)) (by go_simp) ?_
  simp only [Act.put, List.setIfInBounds_toArray, List.set_cons_zero, List.set_cons_succ]
  refine WL.nil ?_
  refine hK2 _ _ ?_
  refine wp_seq_k fun K3 hK3 => ?_
  refine wp_region_list (WL.out ?_)
  refine WL.val (by kernel_rfl) (.pointer (some ⟨p, 0, none⟩)) (by go_simp) ?_
  simp only [Act.put, List.setIfInBounds_toArray, List.set_cons_zero, List.set_cons_succ]
  refine WL.callF (by kernel_rfl) 108 _ _ rfl Tryz.in108 #[ptr p] (by simp [Act.eval]) ?_
  refine (ibyte_good p s a w0 HI0.out Hb.out D hD.out W hW.out N hN.out c hc.out).mono ?_
  rintro e w1 ⟨bad, er, rfl, h1, h2, h3⟩
  refine ⟨_, rfl, ?_⟩
  have HZ1 := Keep.mk (h2.blk HZ0.out (blk_ne HZ0.out HI0.out.blk (by decide)))
  have HG1 : Keep (Grown w w1 fun k => k = p) := ⟨HG0.out.trans h2⟩
  have HT1 := Keep.mk (HT0.out.grown h2 (fun e => HT0.out.ne HI0.out.blk e) (fun g cs hg e => blk_ne hg HI0.out.blk (by decide) e))
  have H1 := Keep.mk h1
  have H3 := Keep.mk h3
  clear h1 h2 h3
  simp only [Act.put, List.setIfInBounds_toArray, List.set_cons_zero, List.set_cons_succ]
  refine WL.val (by kernel_rfl) (.tuple #[.int .u8 c, er]) (by go_simp) ?_
  simp only [Act.put, List.setIfInBounds_toArray, List.set_cons_zero, List.set_cons_succ]
  refine WL.val (by kernel_rfl) (.int .u8 c) (by go_simp) ?_
  simp only [Act.put, List.setIfInBounds_toArray, List.set_cons_zero, List.set_cons_succ]
  refine WL.val (by kernel_rfl) (er) (by go_simp) ?_
  simp only [Act.put, List.setIfInBounds_toArray, List.set_cons_zero, List.set_cons_succ]
  refine WL.val (by kernel_rfl) (.int .u8 c) (by go_simp) ?_
  simp only [Act.put, List.setIfInBounds_toArray, List.set_cons_zero, List.set_cons_succ]
  refine WL.val (by kernel_rfl) (er) (by go_simp) ?_
  simp only [Act.put, List.setIfInBounds_toArray, List.set_cons_zero, List.set_cons_succ]
  refine WL.nil ?_
  refine hK3 _ _ ?_
  refine wp_seq_k fun K4 hK4 => ?_
  refine wp_seq_k fun K5 hK5 => ?_
  by_cases hE : W = 0
  · rcases H3.out with ⟨e1, rfl, rfl⟩ | ⟨e1, _⟩
    rotate_left
    · exact absurd hE e1
    have hcr : 0 ≤ c ∧ c < 256 := by rw [hc.out, if_pos hE]; exact Byts.getD (by rw [hD.out]; exact (lst_byts s).drop a) 0
    have hwc : IntKind.i64.wrap c = c := by rw [IntKind.wrap_i64]; omega
    obtain ⟨xk, hxk⟩ : ∃ xk : OpV, Keep (xk = { zeroOp with kind := c }) := ⟨_, ⟨rfl⟩⟩
    have hcx : Keep (xk.kind = c) := ⟨by rw [hxk.out]⟩
    have Hcr := Keep.mk hcr
    clear hcr
    refine wp_region_list (WL.out ?_)
    refine WL.val (by kernel_rfl) (.nilIface) (by go_simp) ?_
    simp only [Act.put, List.setIfInBounds_toArray, List.set_cons_zero, List.set_cons_succ]
    refine WL.val (by kernel_rfl) (.bool false) (by go_simp) ?_
    simp only [Act.put, List.setIfInBounds_toArray, List.set_cons_zero, List.set_cons_succ]
    refine WL.nil ?_
    refine hK5 _ _ ?_
    refine wp_cond_false rfl ?_
    refine wp_skip ?_
    refine hK4 _ _ ?_
    refine wp_seq_k fun K6 hK6 => ?_
    refine wp_region_list (WL.out ?_)
    refine WL.val (by kernel_rfl) (.int .u8 c) (by go_simp) ?_
    simp only [Act.put, List.setIfInBounds_toArray, List.set_cons_zero, List.set_cons_succ]
    refine WL.val (by kernel_rfl) (.int .i64 c) (by go_simp) ?_
    simp only [Act.put, List.setIfInBounds_toArray, List.set_cons_zero, List.set_cons_succ]
    refine WL.bld (by kernel_rfl) 188 _ rfl [(0, .int .i64 c)] (by simp [Act.eval]) (opA { zeroOp with kind := c }) (zero_built c) ?_
    rw [← hxk.out]
    simp only [Act.put, List.setIfInBounds_toArray, List.set_cons_zero, List.set_cons_succ]
    refine WL.new (by kernel_rfl) 188 rfl _ Tryz.new188 ?_
    simp only [Act.put, List.setIfInBounds_toArray, List.set_cons_zero, List.set_cons_succ]
    refine WL.storeR (by kernel_rfl) 188 (.tmp 11) (.tmp 30) rfl w1.heap.size (opA xk) rfl rfl 188 (opA zeroOp) (Blk.new w1 188 _) (Tryz.size188B xk) (opA_sizes _ _) (opA_one xk) ?_
    have HX2 := Keep.mk ((Blk.new w1 188 (opA zeroOp)).setRow (opA xk))
    have B2 : Keep (Below w1.heap.size w1 ((w1.alloc (.cells (opA zeroOp) 188)).setRow w1.heap.size (opA xk))) := ⟨below_setRow (below_new w1 _) (Nat.le_refl _) _⟩
    obtain ⟨gx, hgx⟩ : ∃ gx, Keep (gx = w1.heap.size) := ⟨_, ⟨rfl⟩⟩
    have Hgx : Keep (w.heap.size ≤ gx) := ⟨by rw [hgx.out]; exact HG1.out.size⟩
    have Hzx : Keep (gz ≠ gx) := ⟨fun e => by have := HZ1.out.lt; rw [hgx.out] at e; omega⟩
    generalize (w1.alloc (.cells (opA zeroOp) 188)).setRow w1.heap.size (opA xk) = w2 at *
    rw [← hgx.out] at HX2 ⊢
    have HZ2 := Keep.mk (HZ1.out.below B2.out HZ1.out.lt)
    have HI2 : Keep (InAt w2 p s (a + N) none) := ⟨H1.out.blk.below B2.out H1.out.blk.lt, H1.out.le⟩
    have HG2 : Keep (Grown w w2 fun k => k = p) := ⟨HG1.out.trans (Grown.below B2.out)⟩
    have HT2 := Keep.mk (HT1.out.below B2.out)
    obtain ⟨vF, hvF, hlk⟩ := HT2.out.look2 c
    obtain ⟨fa, fc, rfl⟩ := hvF.form
    have HvF := Keep.mk hvF
    have hlk2 := (hlk w2 (Below.refl _ _)).2
    have k0 : w2.cell? ⟨gx, 0, none⟩ = some (.int .i64 c) := by have h := HX2.out.c 0 (opA_0 xk); rw [hcx.out] at h; exact h
    clear hvF hlk
    simp only [Act.put]
    refine WL.nil ?_
    refine hK6 _ _ ?_
    refine wp_seq_k fun K7 hK7 => ?_
    refine wp_region_list (WL.out ?_)
    refine WL.val (by kernel_rfl) (.map (some m)) (by go_simp) ?_
    simp only [Act.put, List.setIfInBounds_toArray, List.set_cons_zero, List.set_cons_succ]
    refine WL.val (by kernel_rfl) (.pointer (some ⟨gx, 0, none⟩)) (by go_simp) ?_
    simp only [Act.put, List.setIfInBounds_toArray, List.set_cons_zero, List.set_cons_succ]
    refine WL.val (by kernel_rfl) (.int .i64 c) (by go_simp) ?_
    simp only [Act.put, List.setIfInBounds_toArray, List.set_cons_zero, List.set_cons_succ]
    refine WL.val (by kernel_rfl) (.tuple #[.slice fa (hasI c).length fc, .bool (!(hasI c).isEmpty)]) (by go_simp) ?_
    simp only [Act.put, List.setIfInBounds_toArray, List.set_cons_zero, List.set_cons_succ]
    refine WL.val (by kernel_rfl) (.tuple #[.slice fa (hasI c).length fc, .bool (!(hasI c).isEmpty)]) (by go_simp) ?_
    simp only [Act.put, List.setIfInBounds_toArray, List.set_cons_zero, List.set_cons_succ]
    refine WL.val (by kernel_rfl) (.slice fa (hasI c).length fc) (by go_simp) ?_
    simp only [Act.put, List.setIfInBounds_toArray, List.set_cons_zero, List.set_cons_succ]
    refine WL.val (by kernel_rfl) (.bool (!(hasI c).isEmpty)) (by go_simp) ?_
    simp only [Act.put, List.setIfInBounds_toArray, List.set_cons_zero, List.set_cons_succ]
    refine WL.val (by kernel_rfl) (.slice fa (hasI c).length fc) (by go_simp) ?_
    simp only [Act.put, List.setIfInBounds_toArray, List.set_cons_zero, List.set_cons_succ]
    refine WL.val (by kernel_rfl) (.bool (!(hasI c).isEmpty)) (by go_simp) ?_
    simp only [Act.put, List.setIfInBounds_toArray, List.set_cons_zero, List.set_cons_succ]
    refine WL.nil ?_
    refine hK7 _ _ ?_
    refine wp_seq_k fun K8 hK8 => ?_
    refine wp_seq_k fun K9 hK9 => ?_
    refine wp_region_list (WL.out ?_)
    refine WL.val (by kernel_rfl) (.bool (!(hasI c).isEmpty)) (by go_simp) ?_
    simp only [Act.put, List.setIfInBounds_toArray, List.set_cons_zero, List.set_cons_succ]
    by_cases h7_1 : hasI c = []
    · have hem : (!(hasI c).isEmpty) = false := by rw [h7_1]; rfl
      refine WL.val (by kernel_rfl) (.bool true) (by go_simp) ?_
      simp only [Act.put, List.setIfInBounds_toArray, List.set_cons_zero, List.set_cons_succ]
      refine WL.nil ?_
      refine hK9 _ _ ?_
      refine wp_cond_true rfl ?_
      refine wp_seq_k fun K10 hK10 => ?_
      refine wp_region_list (WL.out ?_)
      refine WL.bld (by kernel_rfl) 188 _ rfl [] (by simp) (opA zeroOp) Tryz.built188 ?_
      simp only [Act.put, List.setIfInBounds_toArray, List.set_cons_zero, List.set_cons_succ]
      refine WL.val (by kernel_rfl) (.int .i64 (a : Int)) (by go_simp) ?_
      simp only [Act.put, List.setIfInBounds_toArray, List.set_cons_zero, List.set_cons_succ]
      refine WL.bld (by kernel_rfl) 123 _ rfl [(0, .int .i64 40), (1, .int .i64 (a : Int))] (by simp [Act.eval]) #[.int .i64 40, .int .i64 (a : Int)] (by kernel_rfl) ?_
      simp only [Act.put, List.setIfInBounds_toArray, List.set_cons_zero, List.set_cons_succ]
      refine WL.box (by kernel_rfl) 123 (.tmp 42) rfl #[.int .i64 40, .int .i64 (a : Int)] rfl ?_
      have HZ3 := Keep.mk (HZ2.out.alloc (.cells #[.int .i64 40, .int .i64 (a : Int)] 123))
      have HB3 := Keep.mk (Blk.new w2 123 #[.int .i64 40, .int .i64 (a : Int)])
      have HG3 : Keep (Grown w (w2.alloc (.cells #[.int .i64 40, .int .i64 (a : Int)] 123)) fun k => k = p) := ⟨HG2.out.trans (Grown.alloc w2 _ _)⟩
      generalize w2.alloc (.cells #[.int .i64 40, .int .i64 (a : Int)] 123) = w3 at *
      simp only [Act.put, List.setIfInBounds_toArray, List.set_cons_zero, List.set_cons_succ]
      refine WL.val (by kernel_rfl) (.iface 121 (.pointer (some ⟨w2.heap.size, 0, none⟩))) (by go_simp) ?_
      simp only [Act.put, List.setIfInBounds_toArray, List.set_cons_zero, List.set_cons_succ]
      refine WL.storeR (by kernel_rfl) 188 (.tmp 6) (.tmp 40) rfl gz (opA zeroOp) rfl rfl 188 (opA zeroOp) HZ3.out (Tryz.size188B _) rfl (opA_one _) ?_
      simp only [Act.put]
      refine WL.val (by kernel_rfl) (.iface 121 (.pointer (some ⟨w2.heap.size, 0, none⟩))) (by go_simp) ?_
      simp only [Act.put, List.setIfInBounds_toArray, List.set_cons_zero, List.set_cons_succ]
      refine WL.nil ?_
      refine hK10 _ _ ?_
      refine wp_ret ?_
      refine bodyPost_ret (v := .tuple #[.agg (opA zeroOp), .iface 121 (ptr w2.heap.size)]) (results_cell_row2 Tryz.results111 _ _ gz 188 _ (0, 0) _ _ rfl rfl (HZ3.out.setRow _) Tryz.underlying188 rfl (Tryz.size188B _)) rfl ?_
      refine ⟨zeroOp, err w2.heap.size, rfl, HG3.out.next (Grown.setRow w3 gz _ (S := fun k => k = gz) fun _ => rfl) (fun k hk e => by have := Hgz.out; omega), ?_⟩
      rw [HR.out, if_neg (by simp [hE]), HcD.out hE, if_pos h7_1]
      exact .inr ⟨(show (40 : Int) ≠ 0 by decide), w2.heap.size, HG2.out.size, rfl, HB3.out.setRow_ne (blk_ne HB3.out HZ3.out (by decide)) _⟩
    · have hem : (!(hasI c).isEmpty) = true := by simpa using h7_1
      refine WL.val (by kernel_rfl) (.bool false) (by go_simp) ?_
      simp only [Act.put, List.setIfInBounds_toArray, List.set_cons_zero, List.set_cons_succ]
      refine WL.nil ?_
      refine hK9 _ _ ?_
      refine wp_cond_false rfl ?_
      refine wp_skip ?_
      refine hK8 _ _ ?_
      refine wp_seq_k fun K11 hK11 => ?_
      refine wp_seq_k fun K12 hK12 => ?_
      refine wp_region_list (WL.out ?_)
      have hN1 : N = 1 := by rw [hN.out, (nextN_0 D 1 (by rw [← hW.out]; exact hE)).1]; rfl
      rw [hN1] at HI2
      have HRR : Keep (R = getFs (lst s) ah (hasI c) xk (a + 1)) := ⟨by rw [HR.out, if_neg (by simp [hE]), HcD.out hE, if_neg h7_1, ← hxk.out]⟩
      have Hi4 := Keep.mk (hasI_lt c)
      have Hn3 := Keep.mk (hasI_len c)
      have S3 : Keep (OpOk xk) := ⟨by rw [hxk.out]; exact { zero_ok with k1 := by show (-9223372036854775808 : Int) ≤ c; have := Hcr.out; omega, k2 := by show c ≤ (9223372036854775807 : Int); have := Hcr.out; omega }⟩
      clear HR h7_1 hem hlk2
      rename Keep (R = getFs _ _ _ _ _) => HR
      generalize hasI c = is at *
      have S1 := HI2
      have S2 := HX2
      have S4 := HvF
      have S5 := HG2
      have S6 := HZ2
      refine WL.val (by kernel_rfl) (.slice fa is.length fc) (by go_simp) ?_
      simp only [Act.put, List.setIfInBounds_toArray, List.set_cons_zero, List.set_cons_succ]
      refine WL.val (by kernel_rfl) (.int .i64 (is.length : Int)) (by go_simp) ?_
      simp only [Act.put, List.setIfInBounds_toArray, List.set_cons_zero, List.set_cons_succ]
      refine WL.val (by kernel_rfl) (.int .i64 0) (by go_simp) ?_
      simp only [Act.put, List.setIfInBounds_toArray, List.set_cons_zero, List.set_cons_succ]
      refine WL.nil ?_
      refine hK12 _ _ ?_
      refine wp_block ?_
      refine wp_loop (fun ac wr => ∃ (t : Nat) (u7 u15 u16 u48 u49 u50 u51 u52 u53 u54 u55 u56 u57 u58 u59 u60 : Value), ac = { tmps := #[.pointer (some ⟨p, 0, none⟩), .map (some m), vA, undef, undef, undef, .pointer (some ⟨gz, 0, none⟩), u7, .int .i64 (a : Int), .int .u8 c, .nilIface, .pointer (some ⟨gx, 0, none⟩), .slice fa is.length fc, .bool (!is.isEmpty), undef, u15, u16, .pointer (some ⟨p, 0, none⟩), .int .i64 (a : Int), .tuple #[.int .u8 c, .nilIface], .pointer (some ⟨p, 0, none⟩), .tuple #[.int .u8 c, .nilIface], .int .u8 c, .nilIface, .nilIface, .bool false, undef, undef, .int .u8 c, .int .i64 c, .agg (opA xk), .tuple #[.slice fa is.length fc, .bool (!is.isEmpty)], .map (some m), .pointer (some ⟨gx, 0, none⟩), .int .i64 c, .tuple #[.slice fa is.length fc, .bool (!is.isEmpty)], .slice fa is.length fc, .bool (!is.isEmpty), .bool (!is.isEmpty), .bool false, undef, undef, undef, undef, undef, .slice fa is.length fc, .int .i64 (is.length : Int), .int .i64 (t : Int), u48, u49, u50, u51, u52, u53, u54, u55, u56, u57, u58, u59, u60, undef], defers := [] } ∧ t ≤ is.length ∧ ∃ xt at_, getFs (lst s) ah is xk (a + 1) = getFs (lst s) ah (is.drop t) xt at_ ∧ InAt wr p s at_ none ∧ Blk wr gx 188 (opA xt) ∧ OpOk xt ∧ FieldsAt wr (.slice fa is.length fc) is ∧ (Grown w wr fun k => k = p) ∧ Blk wr gz 188 (opA zeroOp)) (fun a _ => is.length - (intOf (a.tmps.getD 47 undef)).toNat) ⟨0, .nilIface, undef, undef, undef, undef, undef, undef, undef, undef, undef, undef, undef, undef, undef, undef, undef, rfl, by omega, xk, a + 1, rfl, S1.out, S2.out, S3.out, S4.out, S5.out, S6.out⟩ ?_
      rintro ac wr ⟨t, u7, u15, u16, u48, u49, u50, u51, u52, u53, u54, u55, u56, u57, u58, u59, u60, rfl, ht, xt, at_, hC, hI, hX, hOk, hF, hG, hZ⟩
      by_cases htl : t < is.length
      · have htl' : (t : Int) < (is.length : Int) := by omega
        obtain ⟨gF, hfa, hr2⟩ := hF.at htl
        have hi4 : is.getD t 0 < 4 := Hi4.out _ (by simp [List.getD_eq_getElem?_getD, htl])
        have hst := getFs_step (lst s) ah is t htl xt at_
        generalize is.getD t 0 = i at *
        have hwr2 : IntKind.i64.wrap ((t : Int) + 1) = (t : Int) + 1 := by rw [IntKind.wrap_i64]; have := Hn3.out; omega
        have JC := Keep.mk hC
        have JI := Keep.mk hI
        have JX := Keep.mk hX
        have JOk := Keep.mk hOk
        have JF := Keep.mk hF
        have JG := Keep.mk hG
        have JZ := Keep.mk hZ
        have Jst := Keep.mk hst
        clear hC hI hX hOk hF hG hZ hst
        rcases (show i = 0 ∨ i = 1 ∨ i = 2 ∨ i = 3 by omega) with rfl | rfl | rfl | rfl
        · refine wp_seq_k fun K13 hK13 => ?_
          refine wp_region_list (WL.out ?_)
          refine WL.val (by kernel_rfl) (.bool true) (by go_simp) ?_
          simp only [Act.put, List.setIfInBounds_toArray, List.set_cons_zero, List.set_cons_succ]
          refine WL.nil ?_
          refine hK13 _ _ ?_
          refine wp_seq_k fun K14 hK14 => ?_
          refine wp_cond_true rfl ?_
          refine wp_skip ?_
          refine hK14 _ _ ?_
          refine wp_seq_k fun K15 hK15 => ?_
          refine wp_block ?_
          refine wp_seq_k fun K16 hK16 => ?_
          refine wp_region_list (WL.out ?_)
          refine WL.val (by kernel_rfl) (.pointer (some ⟨gF, 0 + t * 3, none⟩)) (by go_simp) ?_
          simp only [Act.put, List.setIfInBounds_toArray, List.set_cons_zero, List.set_cons_succ]
          refine WL.midA (by kernel_rfl) 216 (.tmp 49) rfl gF (0 + t * 3) rfl (fldA 0) _ hr2 Tryz.underlying216 rfl (Tryz.size216B 0) ?_
          simp only [Act.put, List.setIfInBounds_toArray, List.set_cons_zero, List.set_cons_succ]
          refine WL.new (by kernel_rfl) 216 rfl _ Tryz.new216 ?_
          simp only [Act.put, List.setIfInBounds_toArray, List.set_cons_zero, List.set_cons_succ]
          refine WL.storeR (by kernel_rfl) 216 (.tmp 15) (.tmp 50) rfl wr.heap.size (fldA 0) rfl rfl 216 noF (Blk.new wr 216 noF) (Tryz.size216B 0) (noF_sizes 0) (fldA_one 0) ?_
          have HN := Keep.mk ((Blk.new wr 216 noF).setRow (fldA 0))
          have HGq : Keep (Below wr.heap.size wr ((wr.alloc (.cells noF 216)).setRow wr.heap.size (fldA 0))) := ⟨below_setRow (below_new wr _) (Nat.le_refl _) _⟩
          generalize (wr.alloc (.cells noF 216)).setRow wr.heap.size (fldA 0) = wy at *
          have cf : wy.cell? ⟨wr.heap.size, 2, none⟩ = some (fnv 140) := HN.out.c 2 rfl
          unfold fnv at cf
          have HIy : Keep (InAt wy p s at_ none) := ⟨JI.out.blk.below HGq.out JI.out.blk.lt, JI.out.le⟩
          have HXy := Keep.mk (JX.out.below HGq.out JX.out.lt)
          have HGy : Keep (Grown w wy fun k => k = p) := ⟨JG.out.trans (Grown.below HGq.out)⟩
          simp only [Act.put]
          refine WL.nil ?_
          refine hK16 _ _ ?_
          refine wp_seq_k fun K17 hK17 => ?_
          refine wp_region_list (WL.out ?_)
          refine WL.val (by kernel_rfl) (.pointer (some ⟨wr.heap.size, 2, none⟩)) (by go_simp) ?_
          simp only [Act.put, List.setIfInBounds_toArray, List.set_cons_zero, List.set_cons_succ]
          refine WL.val (by kernel_rfl) (.func (.func 140) #[] #[]) (by go_simp) ?_
          simp only [Act.put, List.setIfInBounds_toArray, List.set_cons_zero, List.set_cons_succ]
          refine WL.val (by kernel_rfl) (.pointer (some ⟨p, 0, none⟩)) (by go_simp) ?_
          simp only [Act.put, List.setIfInBounds_toArray, List.set_cons_zero, List.set_cons_succ]
          refine WL.val (by kernel_rfl) (vA) (by go_simp) ?_
          simp only [Act.put, List.setIfInBounds_toArray, List.set_cons_zero, List.set_cons_succ]
          refine WL.callV (by kernel_rfl) 140 (.tmp 52) _ _ rfl rfl Tryz.in140 #[ptr p, ptr gx, vA] (by simp [Act.eval]) ?_
          refine (get0_any p gx s at_ xt vA ah wy HIy.out Hb.out HXy.out JOk.out).mono ?_
          rintro e w9 ⟨er, rfl, hg9, hc9⟩
          refine ⟨_, rfl, ?_⟩
          have HG9 : Keep (Grown w w9 fun k => k = p) := ⟨HGy.out.next hg9 fun k hk ho => ho.elim id fun e => by have := Hgx.out; omega⟩
          have Hgs : Keep (Grown wr w9 fun k => k = p ∨ k = gx) := ⟨(Grown.below HGq.out).trans hg9⟩
          have HZ9 := Keep.mk (Hgs.out.blk JZ.out (fun e => e.elim (fun e => blk_ne JZ.out JI.out.blk (by decide) e) (fun e => Hzx.out e)))
          have HC9 := Keep.mk hc9
          obtain ⟨G, hGG⟩ : ∃ G, Keep (G = getF (lst s) ah 0 xt at_) := ⟨_, ⟨rfl⟩⟩
          rw [← hGG.out] at HC9 Jst
          clear hg9 hc9 cf
          simp only [Act.put, List.setIfInBounds_toArray, List.set_cons_zero, List.set_cons_succ]
          refine WL.val (by kernel_rfl) (er) (by go_simp) ?_
          simp only [Act.put, List.setIfInBounds_toArray, List.set_cons_zero, List.set_cons_succ]
          refine WL.nil ?_
          refine hK17 _ _ ?_
          refine wp_seq_k fun K18 hK18 => ?_
          by_cases hE : G.1 = 0
          · rcases HC9.out with ⟨e1, rfl, e2, e3, e4⟩ | ⟨e1, _⟩
            rotate_left
            · exact absurd hE e1
            have K1 := Keep.mk e2
            have K2 := Keep.mk e3
            have K3 := Keep.mk e4
            clear e2 e3 e4
            refine wp_region_list (WL.out ?_)
            refine WL.val (by kernel_rfl) (.nilIface) (by go_simp) ?_
            simp only [Act.put, List.setIfInBounds_toArray, List.set_cons_zero, List.set_cons_succ]
            refine WL.val (by kernel_rfl) (.bool false) (by go_simp) ?_
            simp only [Act.put, List.setIfInBounds_toArray, List.set_cons_zero, List.set_cons_succ]
            refine WL.nil ?_
            refine hK18 _ _ ?_
            refine wp_cond_false rfl ?_
            refine wp_skip ?_
            refine hK15 _ _ ?_
            refine wp_region_list (WL.out ?_)
            refine WL.val (by kernel_rfl) (.int .i64 ((t : Int) + 1)) (by go_simp) ?_
            simp only [Act.put, List.setIfInBounds_toArray, List.set_cons_zero, List.set_cons_succ]
            refine WL.val (by kernel_rfl) (.int .i64 ((t : Int) + 1)) (by go_simp) ?_
            simp only [Act.put, List.setIfInBounds_toArray, List.set_cons_zero, List.set_cons_succ]
            refine WL.nil ?_
            rw [if_pos hE] at Jst
            refine ⟨⟨t + 1, u7, .pointer (some ⟨wr.heap.size, 0, none⟩), .nilIface, .bool true, .pointer (some ⟨gF, 0 + t * 3, none⟩), .agg (fldA 0), .pointer (some ⟨wr.heap.size, 2, none⟩), .func (.func 140) #[] #[], .pointer (some ⟨p, 0, none⟩), vA, .nilIface, .nilIface, .bool false, u58, u59, .int .i64 ((t : Int) + 1), rfl, by omega, G.2.2, G.2.1, JC.out.trans Jst.out, K1.out, K2.out, K3.out, JF.out.grown Hgs.out (fun g hg e => e.elim (fun e => blk_ne hg JI.out.blk (by decide) e) (fun e => blk_ne hg JX.out (by decide) e)), HG9.out, HZ9.out⟩, ?_⟩
            simp only [intOf]; show is.length - ((t : Int) + 1).toNat < is.length - ((t : Int)).toNat; omega
          · rcases HC9.out with ⟨e1, _⟩ | ⟨_, q, hq, rfl, hbad⟩
            · exact absurd e1 hE
            have Hbad := Keep.mk hbad
            have Hq := Keep.mk (Nat.le_trans (Nat.le_trans JG.out.size HGq.out.size) hq)
            clear hbad hq
            unfold err
            refine wp_region_list (WL.out ?_)
            refine WL.val (by kernel_rfl) (.iface 121 (ptr q)) (by go_simp) ?_
            simp only [Act.put, List.setIfInBounds_toArray, List.set_cons_zero, List.set_cons_succ]
            refine WL.val (by kernel_rfl) (.bool true) (by go_simp) ?_
            simp only [Act.put, List.setIfInBounds_toArray, List.set_cons_zero, List.set_cons_succ]
            refine WL.nil ?_
            refine hK18 _ _ ?_
            refine wp_cond_true rfl ?_
            refine wp_seq_k fun K19 hK19 => ?_
            refine wp_region_list (WL.out ?_)
            refine WL.bld (by kernel_rfl) 188 _ rfl [] (by simp) (opA zeroOp) Tryz.built188 ?_
            simp only [Act.put, List.setIfInBounds_toArray, List.set_cons_zero, List.set_cons_succ]
            refine WL.val (by kernel_rfl) (.iface 121 (ptr q)) (by go_simp) ?_
            simp only [Act.put, List.setIfInBounds_toArray, List.set_cons_zero, List.set_cons_succ]
            refine WL.storeR (by kernel_rfl) 188 (.tmp 6) (.tmp 58) rfl gz (opA zeroOp) rfl rfl 188 (opA zeroOp) HZ9.out (Tryz.size188B _) rfl (opA_one _) ?_
            simp only [Act.put]
            refine WL.val (by kernel_rfl) (.iface 121 (ptr q)) (by go_simp) ?_
            simp only [Act.put, List.setIfInBounds_toArray, List.set_cons_zero, List.set_cons_succ]
            refine WL.nil ?_
            refine hK19 _ _ ?_
            refine wp_ret ?_
            refine bodyPost_ret (v := .tuple #[.agg (opA zeroOp), .iface 121 (ptr q)]) (results_cell_row2 Tryz.results111 _ _ gz 188 _ (0, 0) _ _ rfl rfl (HZ9.out.setRow _) Tryz.underlying188 rfl (Tryz.size188B _)) rfl ?_
            refine ⟨zeroOp, err q, rfl, HG9.out.next (Grown.setRow w9 gz _ (S := fun k => k = gz) fun _ => rfl) (fun k hk e => by have := Hgz.out; omega), ?_⟩
            rw [HR.out, JC.out, Jst.out, if_neg hE]
            exact .inr ⟨hE, q, Hq.out, rfl, Hbad.out.setRow_ne (blk_ne Hbad.out HZ9.out (by decide)) _⟩
        · refine wp_seq_k fun K20 hK20 => ?_
          refine wp_region_list (WL.out ?_)
          refine WL.val (by kernel_rfl) (.bool true) (by go_simp) ?_
          simp only [Act.put, List.setIfInBounds_toArray, List.set_cons_zero, List.set_cons_succ]
          refine WL.nil ?_
          refine hK20 _ _ ?_
          refine wp_seq_k fun K21 hK21 => ?_
          refine wp_cond_true rfl ?_
          refine wp_skip ?_
          refine hK21 _ _ ?_
          refine wp_seq_k fun K22 hK22 => ?_
          refine wp_block ?_
          refine wp_seq_k fun K23 hK23 => ?_
          refine wp_region_list (WL.out ?_)
          refine WL.val (by kernel_rfl) (.pointer (some ⟨gF, 0 + t * 3, none⟩)) (by go_simp) ?_
          simp only [Act.put, List.setIfInBounds_toArray, List.set_cons_zero, List.set_cons_succ]
          refine WL.midA (by kernel_rfl) 216 (.tmp 49) rfl gF (0 + t * 3) rfl (fldA 1) _ hr2 Tryz.underlying216 rfl (Tryz.size216B 1) ?_
          simp only [Act.put, List.setIfInBounds_toArray, List.set_cons_zero, List.set_cons_succ]
          refine WL.new (by kernel_rfl) 216 rfl _ Tryz.new216 ?_
          simp only [Act.put, List.setIfInBounds_toArray, List.set_cons_zero, List.set_cons_succ]
          refine WL.storeR (by kernel_rfl) 216 (.tmp 15) (.tmp 50) rfl wr.heap.size (fldA 1) rfl rfl 216 noF (Blk.new wr 216 noF) (Tryz.size216B 1) (noF_sizes 1) (fldA_one 1) ?_
          have HN := Keep.mk ((Blk.new wr 216 noF).setRow (fldA 1))
          have HGq : Keep (Below wr.heap.size wr ((wr.alloc (.cells noF 216)).setRow wr.heap.size (fldA 1))) := ⟨below_setRow (below_new wr _) (Nat.le_refl _) _⟩
          generalize (wr.alloc (.cells noF 216)).setRow wr.heap.size (fldA 1) = wy at *
          have cf : wy.cell? ⟨wr.heap.size, 2, none⟩ = some (fnv 144) := HN.out.c 2 rfl
          unfold fnv at cf
          have HIy : Keep (InAt wy p s at_ none) := ⟨JI.out.blk.below HGq.out JI.out.blk.lt, JI.out.le⟩
          have HXy := Keep.mk (JX.out.below HGq.out JX.out.lt)
          have HGy : Keep (Grown w wy fun k => k = p) := ⟨JG.out.trans (Grown.below HGq.out)⟩
          simp only [Act.put]
          refine WL.nil ?_
          refine hK23 _ _ ?_
          refine wp_seq_k fun K24 hK24 => ?_
          refine wp_region_list (WL.out ?_)
          refine WL.val (by kernel_rfl) (.pointer (some ⟨wr.heap.size, 2, none⟩)) (by go_simp) ?_
          simp only [Act.put, List.setIfInBounds_toArray, List.set_cons_zero, List.set_cons_succ]
          refine WL.val (by kernel_rfl) (.func (.func 144) #[] #[]) (by go_simp) ?_
          simp only [Act.put, List.setIfInBounds_toArray, List.set_cons_zero, List.set_cons_succ]
          refine WL.val (by kernel_rfl) (.pointer (some ⟨p, 0, none⟩)) (by go_simp) ?_
          simp only [Act.put, List.setIfInBounds_toArray, List.set_cons_zero, List.set_cons_succ]
          refine WL.val (by kernel_rfl) (vA) (by go_simp) ?_
          simp only [Act.put, List.setIfInBounds_toArray, List.set_cons_zero, List.set_cons_succ]
          refine WL.callV (by kernel_rfl) 144 (.tmp 52) _ _ rfl rfl Tryz.in144 #[ptr p, ptr gx, vA] (by simp [Act.eval]) ?_
          refine (get1_any p gx s at_ xt vA ah wy HIy.out Hb.out HXy.out JOk.out).mono ?_
          rintro e w9 ⟨er, rfl, hg9, hc9⟩
          refine ⟨_, rfl, ?_⟩
          have HG9 : Keep (Grown w w9 fun k => k = p) := ⟨HGy.out.next hg9 fun k hk ho => ho.elim id fun e => by have := Hgx.out; omega⟩
          have Hgs : Keep (Grown wr w9 fun k => k = p ∨ k = gx) := ⟨(Grown.below HGq.out).trans hg9⟩
          have HZ9 := Keep.mk (Hgs.out.blk JZ.out (fun e => e.elim (fun e => blk_ne JZ.out JI.out.blk (by decide) e) (fun e => Hzx.out e)))
          have HC9 := Keep.mk hc9
          obtain ⟨G, hGG⟩ : ∃ G, Keep (G = getF (lst s) ah 1 xt at_) := ⟨_, ⟨rfl⟩⟩
          rw [← hGG.out] at HC9 Jst
          clear hg9 hc9 cf
          simp only [Act.put, List.setIfInBounds_toArray, List.set_cons_zero, List.set_cons_succ]
          refine WL.val (by kernel_rfl) (er) (by go_simp) ?_
          simp only [Act.put, List.setIfInBounds_toArray, List.set_cons_zero, List.set_cons_succ]
          refine WL.nil ?_
          refine hK24 _ _ ?_
          refine wp_seq_k fun K25 hK25 => ?_
          by_cases hE : G.1 = 0
          · rcases HC9.out with ⟨e1, rfl, e2, e3, e4⟩ | ⟨e1, _⟩
            rotate_left
            · exact absurd hE e1
            have K1 := Keep.mk e2
            have K2 := Keep.mk e3
            have K3 := Keep.mk e4
            clear e2 e3 e4
            refine wp_region_list (WL.out ?_)
            refine WL.val (by kernel_rfl) (.nilIface) (by go_simp) ?_
            simp only [Act.put, List.setIfInBounds_toArray, List.set_cons_zero, List.set_cons_succ]
            refine WL.val (by kernel_rfl) (.bool false) (by go_simp) ?_
            simp only [Act.put, List.setIfInBounds_toArray, List.set_cons_zero, List.set_cons_succ]
            refine WL.nil ?_
            refine hK25 _ _ ?_
            refine wp_cond_false rfl ?_
            refine wp_skip ?_
            refine hK22 _ _ ?_
            refine wp_region_list (WL.out ?_)
            refine WL.val (by kernel_rfl) (.int .i64 ((t : Int) + 1)) (by go_simp) ?_
            simp only [Act.put, List.setIfInBounds_toArray, List.set_cons_zero, List.set_cons_succ]
            refine WL.val (by kernel_rfl) (.int .i64 ((t : Int) + 1)) (by go_simp) ?_
            simp only [Act.put, List.setIfInBounds_toArray, List.set_cons_zero, List.set_cons_succ]
            refine WL.nil ?_
            rw [if_pos hE] at Jst
            refine ⟨⟨t + 1, u7, .pointer (some ⟨wr.heap.size, 0, none⟩), .nilIface, .bool true, .pointer (some ⟨gF, 0 + t * 3, none⟩), .agg (fldA 1), .pointer (some ⟨wr.heap.size, 2, none⟩), .func (.func 144) #[] #[], .pointer (some ⟨p, 0, none⟩), vA, .nilIface, .nilIface, .bool false, u58, u59, .int .i64 ((t : Int) + 1), rfl, by omega, G.2.2, G.2.1, JC.out.trans Jst.out, K1.out, K2.out, K3.out, JF.out.grown Hgs.out (fun g hg e => e.elim (fun e => blk_ne hg JI.out.blk (by decide) e) (fun e => blk_ne hg JX.out (by decide) e)), HG9.out, HZ9.out⟩, ?_⟩
            simp only [intOf]; show is.length - ((t : Int) + 1).toNat < is.length - ((t : Int)).toNat; omega
          · rcases HC9.out with ⟨e1, _⟩ | ⟨_, q, hq, rfl, hbad⟩
            · exact absurd e1 hE
            have Hbad := Keep.mk hbad
            have Hq := Keep.mk (Nat.le_trans (Nat.le_trans JG.out.size HGq.out.size) hq)
            clear hbad hq
            unfold err
            refine wp_region_list (WL.out ?_)
            refine WL.val (by kernel_rfl) (.iface 121 (ptr q)) (by go_simp) ?_
            simp only [Act.put, List.setIfInBounds_toArray, List.set_cons_zero, List.set_cons_succ]
            refine WL.val (by kernel_rfl) (.bool true) (by go_simp) ?_
            simp only [Act.put, List.setIfInBounds_toArray, List.set_cons_zero, List.set_cons_succ]
            refine WL.nil ?_
            refine hK25 _ _ ?_
            refine wp_cond_true rfl ?_
            refine wp_seq_k fun K26 hK26 => ?_
            refine wp_region_list (WL.out ?_)
            refine WL.bld (by kernel_rfl) 188 _ rfl [] (by simp) (opA zeroOp) Tryz.built188 ?_
            simp only [Act.put, List.setIfInBounds_toArray, List.set_cons_zero, List.set_cons_succ]
            refine WL.val (by kernel_rfl) (.iface 121 (ptr q)) (by go_simp) ?_
            simp only [Act.put, List.setIfInBounds_toArray, List.set_cons_zero, List.set_cons_succ]
            refine WL.storeR (by kernel_rfl) 188 (.tmp 6) (.tmp 58) rfl gz (opA zeroOp) rfl rfl 188 (opA zeroOp) HZ9.out (Tryz.size188B _) rfl (opA_one _) ?_
            simp only [Act.put]
            refine WL.val (by kernel_rfl) (.iface 121 (ptr q)) (by go_simp) ?_
            simp only [Act.put, List.setIfInBounds_toArray, List.set_cons_zero, List.set_cons_succ]
            refine WL.nil ?_
            refine hK26 _ _ ?_
            refine wp_ret ?_
            refine bodyPost_ret (v := .tuple #[.agg (opA zeroOp), .iface 121 (ptr q)]) (results_cell_row2 Tryz.results111 _ _ gz 188 _ (0, 0) _ _ rfl rfl (HZ9.out.setRow _) Tryz.underlying188 rfl (Tryz.size188B _)) rfl ?_
            refine ⟨zeroOp, err q, rfl, HG9.out.next (Grown.setRow w9 gz _ (S := fun k => k = gz) fun _ => rfl) (fun k hk e => by have := Hgz.out; omega), ?_⟩
            rw [HR.out, JC.out, Jst.out, if_neg hE]
            exact .inr ⟨hE, q, Hq.out, rfl, Hbad.out.setRow_ne (blk_ne Hbad.out HZ9.out (by decide)) _⟩
        · refine wp_seq_k fun K27 hK27 => ?_
          refine wp_region_list (WL.out ?_)
          refine WL.val (by kernel_rfl) (.bool true) (by go_simp) ?_
          simp only [Act.put, List.setIfInBounds_toArray, List.set_cons_zero, List.set_cons_succ]
          refine WL.nil ?_
          refine hK27 _ _ ?_
          refine wp_seq_k fun K28 hK28 => ?_
          refine wp_cond_true rfl ?_
          refine wp_skip ?_
          refine hK28 _ _ ?_
          refine wp_seq_k fun K29 hK29 => ?_
          refine wp_block ?_
          refine wp_seq_k fun K30 hK30 => ?_
          refine wp_region_list (WL.out ?_)
          refine WL.val (by kernel_rfl) (.pointer (some ⟨gF, 0 + t * 3, none⟩)) (by go_simp) ?_
          simp only [Act.put, List.setIfInBounds_toArray, List.set_cons_zero, List.set_cons_succ]
          refine WL.midA (by kernel_rfl) 216 (.tmp 49) rfl gF (0 + t * 3) rfl (fldA 2) _ hr2 Tryz.underlying216 rfl (Tryz.size216B 2) ?_
          simp only [Act.put, List.setIfInBounds_toArray, List.set_cons_zero, List.set_cons_succ]
          refine WL.new (by kernel_rfl) 216 rfl _ Tryz.new216 ?_
          simp only [Act.put, List.setIfInBounds_toArray, List.set_cons_zero, List.set_cons_succ]
          refine WL.storeR (by kernel_rfl) 216 (.tmp 15) (.tmp 50) rfl wr.heap.size (fldA 2) rfl rfl 216 noF (Blk.new wr 216 noF) (Tryz.size216B 2) (noF_sizes 2) (fldA_one 2) ?_
          have HN := Keep.mk ((Blk.new wr 216 noF).setRow (fldA 2))
          have HGq : Keep (Below wr.heap.size wr ((wr.alloc (.cells noF 216)).setRow wr.heap.size (fldA 2))) := ⟨below_setRow (below_new wr _) (Nat.le_refl _) _⟩
          generalize (wr.alloc (.cells noF 216)).setRow wr.heap.size (fldA 2) = wy at *
          have cf : wy.cell? ⟨wr.heap.size, 2, none⟩ = some (fnv 148) := HN.out.c 2 rfl
          unfold fnv at cf
          have HIy : Keep (InAt wy p s at_ none) := ⟨JI.out.blk.below HGq.out JI.out.blk.lt, JI.out.le⟩
          have HXy := Keep.mk (JX.out.below HGq.out JX.out.lt)
          have HGy : Keep (Grown w wy fun k => k = p) := ⟨JG.out.trans (Grown.below HGq.out)⟩
          simp only [Act.put]
          refine WL.nil ?_
          refine hK30 _ _ ?_
          refine wp_seq_k fun K31 hK31 => ?_
          refine wp_region_list (WL.out ?_)
          refine WL.val (by kernel_rfl) (.pointer (some ⟨wr.heap.size, 2, none⟩)) (by go_simp) ?_
          simp only [Act.put, List.setIfInBounds_toArray, List.set_cons_zero, List.set_cons_succ]
          refine WL.val (by kernel_rfl) (.func (.func 148) #[] #[]) (by go_simp) ?_
          simp only [Act.put, List.setIfInBounds_toArray, List.set_cons_zero, List.set_cons_succ]
          refine WL.val (by kernel_rfl) (.pointer (some ⟨p, 0, none⟩)) (by go_simp) ?_
          simp only [Act.put, List.setIfInBounds_toArray, List.set_cons_zero, List.set_cons_succ]
          refine WL.val (by kernel_rfl) (vA) (by go_simp) ?_
          simp only [Act.put, List.setIfInBounds_toArray, List.set_cons_zero, List.set_cons_succ]
          refine WL.callV (by kernel_rfl) 148 (.tmp 52) _ _ rfl rfl Tryz.in148 #[ptr p, ptr gx, vA] (by simp [Act.eval]) ?_
          refine (get2_any p gx s at_ xt vA ah wy HIy.out Hb.out HXy.out JOk.out).mono ?_
          rintro e w9 ⟨er, rfl, hg9, hc9⟩
          refine ⟨_, rfl, ?_⟩
          have HG9 : Keep (Grown w w9 fun k => k = p) := ⟨HGy.out.next hg9 fun k hk ho => ho.elim id fun e => by have := Hgx.out; omega⟩
          have Hgs : Keep (Grown wr w9 fun k => k = p ∨ k = gx) := ⟨(Grown.below HGq.out).trans hg9⟩
          have HZ9 := Keep.mk (Hgs.out.blk JZ.out (fun e => e.elim (fun e => blk_ne JZ.out JI.out.blk (by decide) e) (fun e => Hzx.out e)))
          have HC9 := Keep.mk hc9
          obtain ⟨G, hGG⟩ : ∃ G, Keep (G = getF (lst s) ah 2 xt at_) := ⟨_, ⟨rfl⟩⟩
          rw [← hGG.out] at HC9 Jst
          clear hg9 hc9 cf
          simp only [Act.put, List.setIfInBounds_toArray, List.set_cons_zero, List.set_cons_succ]
          refine WL.val (by kernel_rfl) (er) (by go_simp) ?_
          simp only [Act.put, List.setIfInBounds_toArray, List.set_cons_zero, List.set_cons_succ]
          refine WL.nil ?_
          refine hK31 _ _ ?_
          refine wp_seq_k fun K32 hK32 => ?_
          by_cases hE : G.1 = 0
          · rcases HC9.out with ⟨e1, rfl, e2, e3, e4⟩ | ⟨e1, _⟩
            rotate_left
            · exact absurd hE e1
            have K1 := Keep.mk e2
            have K2 := Keep.mk e3
            have K3 := Keep.mk e4
            clear e2 e3 e4
            refine wp_region_list (WL.out ?_)
            refine WL.val (by kernel_rfl) (.nilIface) (by go_simp) ?_
            simp only [Act.put, List.setIfInBounds_toArray, List.set_cons_zero, List.set_cons_succ]
            refine WL.val (by kernel_rfl) (.bool false) (by go_simp) ?_
            simp only [Act.put, List.setIfInBounds_toArray, List.set_cons_zero, List.set_cons_succ]
            refine WL.nil ?_
            refine hK32 _ _ ?_
            refine wp_cond_false rfl ?_
            refine wp_skip ?_
            refine hK29 _ _ ?_
            refine wp_region_list (WL.out ?_)
            refine WL.val (by kernel_rfl) (.int .i64 ((t : Int) + 1)) (by go_simp) ?_
            simp only [Act.put, List.setIfInBounds_toArray, List.set_cons_zero, List.set_cons_succ]
            refine WL.val (by kernel_rfl) (.int .i64 ((t : Int) + 1)) (by go_simp) ?_
            simp only [Act.put, List.setIfInBounds_toArray, List.set_cons_zero, List.set_cons_succ]
            refine WL.nil ?_
            rw [if_pos hE] at Jst
            refine ⟨⟨t + 1, u7, .pointer (some ⟨wr.heap.size, 0, none⟩), .nilIface, .bool true, .pointer (some ⟨gF, 0 + t * 3, none⟩), .agg (fldA 2), .pointer (some ⟨wr.heap.size, 2, none⟩), .func (.func 148) #[] #[], .pointer (some ⟨p, 0, none⟩), vA, .nilIface, .nilIface, .bool false, u58, u59, .int .i64 ((t : Int) + 1), rfl, by omega, G.2.2, G.2.1, JC.out.trans Jst.out, K1.out, K2.out, K3.out, JF.out.grown Hgs.out (fun g hg e => e.elim (fun e => blk_ne hg JI.out.blk (by decide) e) (fun e => blk_ne hg JX.out (by decide) e)), HG9.out, HZ9.out⟩, ?_⟩
            simp only [intOf]; show is.length - ((t : Int) + 1).toNat < is.length - ((t : Int)).toNat; omega
          · rcases HC9.out with ⟨e1, _⟩ | ⟨_, q, hq, rfl, hbad⟩
            · exact absurd e1 hE
            have Hbad := Keep.mk hbad
            have Hq := Keep.mk (Nat.le_trans (Nat.le_trans JG.out.size HGq.out.size) hq)
            clear hbad hq
            unfold err
            refine wp_region_list (WL.out ?_)
            refine WL.val (by kernel_rfl) (.iface 121 (ptr q)) (by go_simp) ?_
            simp only [Act.put, List.setIfInBounds_toArray, List.set_cons_zero, List.set_cons_succ]
            refine WL.val (by kernel_rfl) (.bool true) (by go_simp) ?_
            simp only [Act.put, List.setIfInBounds_toArray, List.set_cons_zero, List.set_cons_succ]
            refine WL.nil ?_
            refine hK32 _ _ ?_
            refine wp_cond_true rfl ?_
            refine wp_seq_k fun K33 hK33 => ?_
            refine wp_region_list (WL.out ?_)
            refine WL.bld (by kernel_rfl) 188 _ rfl [] (by simp) (opA zeroOp) Tryz.built188 ?_
            simp only [Act.put, List.setIfInBounds_toArray, List.set_cons_zero, List.set_cons_succ]
            refine WL.val (by kernel_rfl) (.iface 121 (ptr q)) (by go_simp) ?_
            simp only [Act.put, List.setIfInBounds_toArray, List.set_cons_zero, List.set_cons_succ]
            refine WL.storeR (by kernel_rfl) 188 (.tmp 6) (.tmp 58) rfl gz (opA zeroOp) rfl rfl 188 (opA zeroOp) HZ9.out (Tryz.size188B _) rfl (opA_one _) ?_
            simp only [Act.put]
            refine WL.val (by kernel_rfl) (.iface 121 (ptr q)) (by go_simp) ?_
            simp only [Act.put, List.setIfInBounds_toArray, List.set_cons_zero, List.set_cons_succ]
            refine WL.nil ?_
            refine hK33 _ _ ?_
            refine wp_ret ?_
            refine bodyPost_ret (v := .tuple #[.agg (opA zeroOp), .iface 121 (ptr q)]) (results_cell_row2 Tryz.results111 _ _ gz 188 _ (0, 0) _ _ rfl rfl (HZ9.out.setRow _) Tryz.underlying188 rfl (Tryz.size188B _)) rfl ?_
            refine ⟨zeroOp, err q, rfl, HG9.out.next (Grown.setRow w9 gz _ (S := fun k => k = gz) fun _ => rfl) (fun k hk e => by have := Hgz.out; omega), ?_⟩
            rw [HR.out, JC.out, Jst.out, if_neg hE]
            exact .inr ⟨hE, q, Hq.out, rfl, Hbad.out.setRow_ne (blk_ne Hbad.out HZ9.out (by decide)) _⟩
        · refine wp_seq_k fun K34 hK34 => ?_
          refine wp_region_list (WL.out ?_)
          refine WL.val (by kernel_rfl) (.bool true) (by go_simp) ?_
          simp only [Act.put, List.setIfInBounds_toArray, List.set_cons_zero, List.set_cons_succ]
          refine WL.nil ?_
          refine hK34 _ _ ?_
          refine wp_seq_k fun K35 hK35 => ?_
          refine wp_cond_true rfl ?_
          refine wp_skip ?_
          refine hK35 _ _ ?_
          refine wp_seq_k fun K36 hK36 => ?_
          refine wp_block ?_
          refine wp_seq_k fun K37 hK37 => ?_
          refine wp_region_list (WL.out ?_)
          refine WL.val (by kernel_rfl) (.pointer (some ⟨gF, 0 + t * 3, none⟩)) (by go_simp) ?_
          simp only [Act.put, List.setIfInBounds_toArray, List.set_cons_zero, List.set_cons_succ]
          refine WL.midA (by kernel_rfl) 216 (.tmp 49) rfl gF (0 + t * 3) rfl (fldA 3) _ hr2 Tryz.underlying216 rfl (Tryz.size216B 3) ?_
          simp only [Act.put, List.setIfInBounds_toArray, List.set_cons_zero, List.set_cons_succ]
          refine WL.new (by kernel_rfl) 216 rfl _ Tryz.new216 ?_
          simp only [Act.put, List.setIfInBounds_toArray, List.set_cons_zero, List.set_cons_succ]
          refine WL.storeR (by kernel_rfl) 216 (.tmp 15) (.tmp 50) rfl wr.heap.size (fldA 3) rfl rfl 216 noF (Blk.new wr 216 noF) (Tryz.size216B 3) (noF_sizes 3) (fldA_one 3) ?_
          have HN := Keep.mk ((Blk.new wr 216 noF).setRow (fldA 3))
          have HGq : Keep (Below wr.heap.size wr ((wr.alloc (.cells noF 216)).setRow wr.heap.size (fldA 3))) := ⟨below_setRow (below_new wr _) (Nat.le_refl _) _⟩
          generalize (wr.alloc (.cells noF 216)).setRow wr.heap.size (fldA 3) = wy at *
          have cf : wy.cell? ⟨wr.heap.size, 2, none⟩ = some (fnv 152) := HN.out.c 2 rfl
          unfold fnv at cf
          have HIy : Keep (InAt wy p s at_ none) := ⟨JI.out.blk.below HGq.out JI.out.blk.lt, JI.out.le⟩
          have HXy := Keep.mk (JX.out.below HGq.out JX.out.lt)
          have HGy : Keep (Grown w wy fun k => k = p) := ⟨JG.out.trans (Grown.below HGq.out)⟩
          simp only [Act.put]
          refine WL.nil ?_
          refine hK37 _ _ ?_
          refine wp_seq_k fun K38 hK38 => ?_
          refine wp_region_list (WL.out ?_)
          refine WL.val (by kernel_rfl) (.pointer (some ⟨wr.heap.size, 2, none⟩)) (by go_simp) ?_
          simp only [Act.put, List.setIfInBounds_toArray, List.set_cons_zero, List.set_cons_succ]
          refine WL.val (by kernel_rfl) (.func (.func 152) #[] #[]) (by go_simp) ?_
          simp only [Act.put, List.setIfInBounds_toArray, List.set_cons_zero, List.set_cons_succ]
          refine WL.val (by kernel_rfl) (.pointer (some ⟨p, 0, none⟩)) (by go_simp) ?_
          simp only [Act.put, List.setIfInBounds_toArray, List.set_cons_zero, List.set_cons_succ]
          refine WL.val (by kernel_rfl) (vA) (by go_simp) ?_
          simp only [Act.put, List.setIfInBounds_toArray, List.set_cons_zero, List.set_cons_succ]
          refine WL.callV (by kernel_rfl) 152 (.tmp 52) _ _ rfl rfl Tryz.in152 #[ptr p, ptr gx, vA] (by simp [Act.eval]) ?_
          refine (get3_any p gx s at_ xt vA ah wy HIy.out Hb.out HXy.out JOk.out (fun wx hx => HA.out wx (HGy.out.next hx fun k hk ho => ho.elim id fun e => by have := Hgx.out; omega)) Hal.out).mono ?_
          rintro e w9 ⟨er, rfl, hg9, hc9⟩
          refine ⟨_, rfl, ?_⟩
          have HG9 : Keep (Grown w w9 fun k => k = p) := ⟨HGy.out.next hg9 fun k hk ho => ho.elim id fun e => by have := Hgx.out; omega⟩
          have Hgs : Keep (Grown wr w9 fun k => k = p ∨ k = gx) := ⟨(Grown.below HGq.out).trans hg9⟩
          have HZ9 := Keep.mk (Hgs.out.blk JZ.out (fun e => e.elim (fun e => blk_ne JZ.out JI.out.blk (by decide) e) (fun e => Hzx.out e)))
          have HC9 := Keep.mk hc9
          obtain ⟨G, hGG⟩ : ∃ G, Keep (G = getF (lst s) ah 3 xt at_) := ⟨_, ⟨rfl⟩⟩
          rw [← hGG.out] at HC9 Jst
          clear hg9 hc9 cf
          simp only [Act.put, List.setIfInBounds_toArray, List.set_cons_zero, List.set_cons_succ]
          refine WL.val (by kernel_rfl) (er) (by go_simp) ?_
          simp only [Act.put, List.setIfInBounds_toArray, List.set_cons_zero, List.set_cons_succ]
          refine WL.nil ?_
          refine hK38 _ _ ?_
          refine wp_seq_k fun K39 hK39 => ?_
          by_cases hE : G.1 = 0
          · rcases HC9.out with ⟨e1, rfl, e2, e3, e4⟩ | ⟨e1, _⟩
            rotate_left
            · exact absurd hE e1
            have K1 := Keep.mk e2
            have K2 := Keep.mk e3
            have K3 := Keep.mk e4
            clear e2 e3 e4
            refine wp_region_list (WL.out ?_)
            refine WL.val (by kernel_rfl) (.nilIface) (by go_simp) ?_
            simp only [Act.put, List.setIfInBounds_toArray, List.set_cons_zero, List.set_cons_succ]
            refine WL.val (by kernel_rfl) (.bool false) (by go_simp) ?_
            simp only [Act.put, List.setIfInBounds_toArray, List.set_cons_zero, List.set_cons_succ]
            refine WL.nil ?_
            refine hK39 _ _ ?_
            refine wp_cond_false rfl ?_
            refine wp_skip ?_
            refine hK36 _ _ ?_
            refine wp_region_list (WL.out ?_)
            refine WL.val (by kernel_rfl) (.int .i64 ((t : Int) + 1)) (by go_simp) ?_
            simp only [Act.put, List.setIfInBounds_toArray, List.set_cons_zero, List.set_cons_succ]
            refine WL.val (by kernel_rfl) (.int .i64 ((t : Int) + 1)) (by go_simp) ?_
            simp only [Act.put, List.setIfInBounds_toArray, List.set_cons_zero, List.set_cons_succ]
            refine WL.nil ?_
            rw [if_pos hE] at Jst
            refine ⟨⟨t + 1, u7, .pointer (some ⟨wr.heap.size, 0, none⟩), .nilIface, .bool true, .pointer (some ⟨gF, 0 + t * 3, none⟩), .agg (fldA 3), .pointer (some ⟨wr.heap.size, 2, none⟩), .func (.func 152) #[] #[], .pointer (some ⟨p, 0, none⟩), vA, .nilIface, .nilIface, .bool false, u58, u59, .int .i64 ((t : Int) + 1), rfl, by omega, G.2.2, G.2.1, JC.out.trans Jst.out, K1.out, K2.out, K3.out, JF.out.grown Hgs.out (fun g hg e => e.elim (fun e => blk_ne hg JI.out.blk (by decide) e) (fun e => blk_ne hg JX.out (by decide) e)), HG9.out, HZ9.out⟩, ?_⟩
            simp only [intOf]; show is.length - ((t : Int) + 1).toNat < is.length - ((t : Int)).toNat; omega
          · rcases HC9.out with ⟨e1, _⟩ | ⟨_, q, hq, rfl, hbad⟩
            · exact absurd e1 hE
            have Hbad := Keep.mk hbad
            have Hq := Keep.mk (Nat.le_trans (Nat.le_trans JG.out.size HGq.out.size) hq)
            clear hbad hq
            unfold err
            refine wp_region_list (WL.out ?_)
            refine WL.val (by kernel_rfl) (.iface 121 (ptr q)) (by go_simp) ?_
            simp only [Act.put, List.setIfInBounds_toArray, List.set_cons_zero, List.set_cons_succ]
            refine WL.val (by kernel_rfl) (.bool true) (by go_simp) ?_
            simp only [Act.put, List.setIfInBounds_toArray, List.set_cons_zero, List.set_cons_succ]
            refine WL.nil ?_
            refine hK39 _ _ ?_
            refine wp_cond_true rfl ?_
            refine wp_seq_k fun K40 hK40 => ?_
            refine wp_region_list (WL.out ?_)
            refine WL.bld (by kernel_rfl) 188 _ rfl [] (by simp) (opA zeroOp) Tryz.built188 ?_
            simp only [Act.put, List.setIfInBounds_toArray, List.set_cons_zero, List.set_cons_succ]
            refine WL.val (by kernel_rfl) (.iface 121 (ptr q)) (by go_simp) ?_
            simp only [Act.put, List.setIfInBounds_toArray, List.set_cons_zero, List.set_cons_succ]
            refine WL.storeR (by kernel_rfl) 188 (.tmp 6) (.tmp 58) rfl gz (opA zeroOp) rfl rfl 188 (opA zeroOp) HZ9.out (Tryz.size188B _) rfl (opA_one _) ?_
            simp only [Act.put]
            refine WL.val (by kernel_rfl) (.iface 121 (ptr q)) (by go_simp) ?_
            simp only [Act.put, List.setIfInBounds_toArray, List.set_cons_zero, List.set_cons_succ]
            refine WL.nil ?_
            refine hK40 _ _ ?_
            refine wp_ret ?_
            refine bodyPost_ret (v := .tuple #[.agg (opA zeroOp), .iface 121 (ptr q)]) (results_cell_row2 Tryz.results111 _ _ gz 188 _ (0, 0) _ _ rfl rfl (HZ9.out.setRow _) Tryz.underlying188 rfl (Tryz.size188B _)) rfl ?_
            refine ⟨zeroOp, err q, rfl, HG9.out.next (Grown.setRow w9 gz _ (S := fun k => k = gz) fun _ => rfl) (fun k hk e => by have := Hgz.out; omega), ?_⟩
            rw [HR.out, JC.out, Jst.out, if_neg hE]
            exact .inr ⟨hE, q, Hq.out, rfl, Hbad.out.setRow_ne (blk_ne Hbad.out HZ9.out (by decide)) _⟩
      · have hte : Keep (t = is.length) := ⟨by omega⟩
        have htl' : ¬ (t : Int) < (is.length : Int) := by omega
        refine wp_seq_k fun K41 hK41 => ?_
        refine wp_region_list (WL.out ?_)
        refine WL.val (by kernel_rfl) (.bool false) (by go_simp) ?_
        simp only [Act.put, List.setIfInBounds_toArray, List.set_cons_zero, List.set_cons_succ]
        refine WL.nil ?_
        refine hK41 _ _ ?_
        refine wp_seq_k fun K42 hK42 => ?_
        refine wp_cond_false rfl ?_
        refine wp_exit ?_
        refine hK11 _ _ ?_
        refine wp_seq_k fun K43 hK43 => ?_
        refine wp_region_list (WL.out ?_)
        refine WL.row (by kernel_rfl) 188 (.tmp 11) rfl gx rfl 188 (opA xt) _ hX Tryz.underlying188 rfl (Tryz.size188B xt) ?_
        simp only [Act.put, List.setIfInBounds_toArray, List.set_cons_zero, List.set_cons_succ]
        refine WL.storeR (by kernel_rfl) 188 (.tmp 6) (.tmp 61) rfl gz (opA xt) rfl rfl 188 (opA zeroOp) hZ (Tryz.size188B _) (opA_sizes _ _) (opA_one _) ?_
        simp only [Act.put]
        refine WL.val (by kernel_rfl) (.nilIface) (by go_simp) ?_
        simp only [Act.put, List.setIfInBounds_toArray, List.set_cons_zero, List.set_cons_succ]
        refine WL.nil ?_
        refine hK43 _ _ ?_
        refine wp_ret ?_
        refine bodyPost_ret (v := .tuple #[.agg (opA xt), .nilIface]) (results_cell_row2 Tryz.results111 _ _ gz 188 _ (0, 0) _ _ rfl rfl (hZ.setRow _) Tryz.underlying188 rfl (Tryz.size188B _)) rfl ?_
        rw [hte.out, List.drop_length] at hC
        refine ⟨xt, .nilIface, rfl, hG.next (Grown.setRow wr gz _ (S := fun k => k = gz) fun _ => rfl) (fun k hk e => by have := Hgz.out; omega), ?_⟩
        rw [HR.out, hC]
        exact .inl ⟨rfl, rfl, rfl, ⟨hI.blk.setRow_ne (blk_ne hI.blk hZ (by decide)) _, hI.le⟩, hOk⟩
  · rcases H3.out with ⟨e1, _⟩ | ⟨_, q, hq, rfl, rfl, hbad⟩
    · exact absurd e1 hE
    have Hbad := Keep.mk hbad
    have Hq := Keep.mk (Nat.le_trans HG0.out.size hq)
    clear hbad hq
    unfold err
    refine wp_region_list (WL.out ?_)
    refine WL.val (by kernel_rfl) (.iface 121 (ptr q)) (by go_simp) ?_
    simp only [Act.put, List.setIfInBounds_toArray, List.set_cons_zero, List.set_cons_succ]
    refine WL.val (by kernel_rfl) (.bool true) (by go_simp) ?_
    simp only [Act.put, List.setIfInBounds_toArray, List.set_cons_zero, List.set_cons_succ]
    refine WL.nil ?_
    refine hK5 _ _ ?_
    refine wp_cond_true rfl ?_
    refine wp_seq_k fun K44 hK44 => ?_
    refine wp_region_list (WL.out ?_)
    refine WL.bld (by kernel_rfl) 188 _ rfl [] (by simp) (opA zeroOp) Tryz.built188 ?_
    simp only [Act.put, List.setIfInBounds_toArray, List.set_cons_zero, List.set_cons_succ]
    refine WL.val (by kernel_rfl) (.iface 121 (ptr q)) (by go_simp) ?_
    simp only [Act.put, List.setIfInBounds_toArray, List.set_cons_zero, List.set_cons_succ]
    refine WL.storeR (by kernel_rfl) 188 (.tmp 6) (.tmp 26) rfl gz (opA zeroOp) rfl rfl 188 (opA zeroOp) HZ1.out (Tryz.size188B _) rfl (opA_one _) ?_
    simp only [Act.put]
    refine WL.val (by kernel_rfl) (.iface 121 (ptr q)) (by go_simp) ?_
    simp only [Act.put, List.setIfInBounds_toArray, List.set_cons_zero, List.set_cons_succ]
    refine WL.nil ?_
    refine hK44 _ _ ?_
    refine wp_ret ?_
    refine bodyPost_ret (v := .tuple #[.agg (opA zeroOp), .iface 121 (ptr q)]) (results_cell_row2 Tryz.results111 _ _ gz 188 _ (0, 0) _ _ rfl rfl (HZ1.out.setRow _) Tryz.underlying188 rfl (Tryz.size188B _)) rfl ?_
    refine ⟨zeroOp, err q, rfl, HG1.out.next (Grown.setRow w1 gz _ (S := fun k => k = gz) fun _ => rfl) (fun k hk e => by have := Hgz.out; omega), ?_⟩
    rw [HR.out, if_pos hE]
    exact .inr ⟨hE, q, Hq.out, rfl, Hbad.out.setRow_ne (blk_ne Hbad.out HZ1.out (by decide)) _⟩

end Go.Proofs.YtdkhjeofjhcceaaGreatDoor.Nd
namespace Go.Proofs.YtdkhjeofjhcceaaGreatDoor.Nd
open Go.RowKit
set_option linter.unusedSimpArgs false

def OwnO (w : World) (v : Value) (l : List OpV) : Prop := w.ownsRow 0 188 37 v l.length (flatO l)
theorem OwnO.form {w : World} {v : Value} {l : List OpV} (h : OwnO w v l) : (v = .slice none 0 0 ∧ l = []) ∨ ∃ g cap cur, v = .slice (some ⟨g, 0, none⟩) l.length cap ∧ Blk w g 188 cur ∧ l.length ≤ cap ∧ cur.toList.take (l.length * 37) = flatO l := by
  rcases h.2 with ⟨rfl, h0⟩ | ⟨g, cap, cur, rfl, _, h3, h4, h5, h6, h7⟩
  · exact .inl ⟨rfl, List.eq_nil_of_length_eq_zero h0⟩
  · exact .inr ⟨g, cap, cur, rfl, h3, h4, h7⟩
theorem OwnO.ops {w : World} {v : Value} {l : List OpV} (h : OwnO w v l) : OpsAt w v l := by
  rcases h.form with ⟨rfl, rfl⟩ | ⟨g, cap, cur, rfl, h1, h2, h3⟩
  · exact .inl ⟨_, _, rfl, rfl⟩
  · exact ops_block h1 h3 h2
theorem OwnO.sl {w : World} {v : Value} {l : List OpV} (h : OwnO w v l) : ∃ a c, v = .slice a l.length c := h.ops.form
theorem OwnO.lt {w : World} {v : Value} {l : List OpV} (h : OwnO w v l) : ∀ k, v.ownBlock = some k → k < w.heap.size := fun k hk => (World.ownsRow.lt h k hk).2
theorem OwnO.grown {w w' : World} {v : Value} {l : List OpV} {S : Nat → Prop} (h : OwnO w v l) (hg : Grown w w' S) (hs : ∀ k, v.ownBlock = some k → ¬ S k) : OwnO w' v l := by
  refine ⟨h.1, ?_⟩
  rcases h.2 with h1 | ⟨g, cap, cur, rfl, h2, h3, h4⟩
  · exact .inl h1
  · exact .inr ⟨g, cap, cur, rfl, h2, hg.blk h3 (hs g rfl), h4⟩
theorem OwnO.below {w w' : World} {v : Value} {l : List OpV} (h : OwnO w v l) (hb : Below w.heap.size w w') : OwnO w' v l := h.grown (Grown.below (S := fun _ => False) hb) fun _ _ h => h
theorem OwnO.ne {w : World} {v : Value} {l : List OpV} {p : Nat} {T : TypeId} {cs : Array Value} (h : OwnO w v l) (hp : Blk w p T cs) (hT : T ≠ 188) : v.ownBlock ≠ some p := by
  intro e
  rcases h.form with ⟨rfl, _⟩ | ⟨g, cap, cur, rfl, h3, _⟩
  · simp [Value.ownBlock] at e
  · simp [Value.ownBlock] at e
    subst e
    exact hT (blk_type hp h3)
theorem ownO_empty (w : World) : OwnO (w.alloc (.cells #[] 188)) (.slice (some ⟨w.heap.size, 0, none⟩) 0 0) [] :=
  ⟨rfl, .inr ⟨w.heap.size, 0, #[], rfl, Nat.zero_le _, Blk.new w 188 #[], Nat.le_refl _, by decide, rfl, rfl⟩⟩
theorem Tryz.info188 : (Tryz.prog.info? 188).map (fun i => (i.zero, i.size, i.bytes)) = some (some (.agg (opA zeroOp)), 37, 88) := by kernel_rfl
theorem run_appO (w : World) (ty : TypeId) (v : Value) (l : List OpV) (hown : OwnO w v l) (g : Nat) (x : OpV) (hg : Blk w g 188 (opA x)) (hb : l.length ≤ 1000000000000) :
    ∃ v' w', (Builtin.append_ #[51, 51] ty #[v, .slice (some ⟨g, 0, none⟩) 1 1]).run Tryz.prog w = .ok v' w' ∧ OwnO w' v' (l ++ [x]) ∧ (Grown w w' fun k => v.ownBlock = some k) ∧ Moved w v v' := by
  obtain ⟨i, hi, hzz⟩ := Option.map_eq_some_iff.1 Tryz.info188
  simp only [Prod.mk.injEq] at hzz
  obtain ⟨hz, hsz, hby⟩ := hzz
  obtain ⟨v', w', hr, h1, h2, _, h3⟩ := run_append_own_at (P := Tryz.prog) w 0 51 ty 188 i (.agg (opA zeroOp)) 37 88 Tryz.underlying51 hi hz hsz hby (opA_size _) (by omega) v l.length (flatO l) hown ⟨g, 0, none⟩ 1 1 (opL x) (by rw [opL_len]) (fun j u hu => by
      rw [Addr.add_mid, Nat.zero_add, hg.cell]
      unfold opA
      rw [List.getElem?_toArray]; exact hu)
    (fun u hu => (Array.all_eq_true_iff_forall_mem.1 (opA_one x)) u (by unfold opA; simpa using hu)) (by unfold maxLen; omega) (by omega) (Nat.zero_le _)
  refine ⟨v', w', hr, ?_, Grown.of h2 fun k _ e => e, ?_⟩
  · unfold OwnO
    rw [List.length_append, show flatO (l ++ [x]) = flatO l ++ opL x by simp [flatO]]
    exact h1
  · rcases h3 with h3 | h3
    · exact .inl h3
    · exact .inr ⟨_, h3, Nat.le_refl _⟩
theorem WL.appO {ops : Array Oper} {rest : List Oper} {o : Oper} {a : Act} {w : World} {Q : Exit → Act → World → Prop} (hw : Region.wanted o (yielded ops a.tmps) = true) (s x : Operand)
    (ho : o.op = .call { callee := .builtin .append, args := #[s, x], argTypes := #[51, 51] }) (v : Value) (l : List OpV) (g : Nat) (y : OpV)
    (hs : a.eval s = v) (hx : a.eval x = .slice (some ⟨g, 0, none⟩) 1 1) (hown : OwnO w v l) (hg : Blk w g 188 (opA y)) (hb : l.length ≤ 1000000000000)
    (h : ∀ v' w', OwnO w' v' (l ++ [y]) → (Grown w w' fun k => v.ownBlock = some k) → Moved w v v' → WL Tryz.prog ops Q rest (a.put o.dst v') w') : WL Tryz.prog ops Q (o :: rest) a w :=
  ⟨wpList_wanted hw fun K hK => by
    obtain ⟨v', w', hr, h1, h2, h3⟩ := run_appO w o.type v l hown g y hg hb
    unfold Oper.wp execOp
    simp only [ho, resolve, invoke, builtin, Sem.run_bind, Sem.run_pure, Result.andThen_ok, List.map_toArray, List.map_cons, List.map_nil, hs, hx, hr]
    exact hK _ _ (h v' w' h1 h2 h3).out⟩
theorem bsO (x : OpV) (w : World) : (Instr.buildSlice 51 1 #[(0, .agg (opA x))]).run Tryz.prog w = .ok (.slice (some ⟨w.heap.size, 0, none⟩) 1 1) (w.alloc (.cells (opA x) 188)) := by kernel_rfl
theorem bsE (w : World) : (Instr.buildSlice 51 0 #[]).run Tryz.prog w = .ok (.slice (some ⟨w.heap.size, 0, none⟩) 0 0) (w.alloc (.cells #[] 188)) := by kernel_rfl
def getN (L : List Int) : Nat → List OpV → Nat → Int × Nat × List OpV
  | 0, l, a => (0, a, l)
  | n + 1, l, a => if (getO L l a).1 = 0 then getN L n (l ++ [(getO L l a).2.2]) (getO L l a).2.1 else ((getO L l a).1, (getO L l a).2.1, [])
def getL (L : List Int) (a : Nat) : Int × Nat × List OpV :=
  if (fstM (L.drop a) 1024).2.2 ≠ 0 then ((fstM (L.drop a) 1024).2.2, a + (fstM (L.drop a) 1024).2.1.toNat, []) else getN L (fstM (L.drop a) 1024).1.toNat [] (a + (fstM (L.drop a) 1024).2.1.toNat)
def ListPost (p : Nat) (s : ByteArray) (R : Int × Nat × List OpV) (w : World) (e : Ending) (w' : World) : Prop :=
  ∃ v er, e = .returned (.tuple #[v, er]) ∧ (Grown w w' fun k => k = p) ∧
    ((R.1 = 0 ∧ er = .nilIface ∧ OwnO w' v R.2.2 ∧ (∀ k, v.ownBlock = some k → w.heap.size ≤ k) ∧ InAt w' p s R.2.1 none ∧ (∀ x ∈ R.2.2, OpOk x) ∧ R.2.2.length ≤ 1024) ∨ (R.1 ≠ 0 ∧ v = .slice none 0 0 ∧ ∃ q, w.heap.size ≤ q ∧ er = err q ∧ BadAt w' q R.1 R.2.1))
set_option maxRecDepth 8000 in
set_option maxHeartbeats 4000000 in
theorem get_any (p : Nat) (s : ByteArray) (a : Nat) (w : World) (hI : InAt w p s a none) (hb : s.size ≤ 140737488355328) :
    Calls Tryz.prog 88 #[ptr p] w (ListPost p s (getL (lst s) a) w) := by
  have HI := Keep.mk hI
  have Hb := Keep.mk hb
  have hrg := fst_rng ((lst s).drop a) ((lst_byts s).drop a) 1024 (by decide)
  have hc := inum_good p s a 1024 w hI hb
  obtain ⟨G, hG⟩ : ∃ G, G = getL (lst s) a := ⟨_, rfl⟩
  rw [← hG]
  unfold getL at hG
  have hc' : Calls Tryz.prog 45 #[ptr p, .int .u64 1024] w (RdPost p s (fstM ((lst s).drop a) 1024).2.2 (a + (fstM ((lst s).drop a) 1024).2.1.toNat) (.int .u64 (fstM ((lst s).drop a) 1024).1) w) := hc
  clear hc
  generalize fstM ((lst s).drop a) 1024 = R at *
  obtain ⟨rv, rn, re⟩ := R
  simp only at hG hc' hrg
  obtain ⟨a1, ha1⟩ : ∃ a1, a1 = a + rn.toNat := ⟨_, rfl⟩
  rw [← ha1] at hG hc'
  have HC := Keep.mk hc'
  have Hrg := Keep.mk hrg
  have HG1 : Keep (¬ re = 0 → G = (re, a1, [])) := ⟨fun h => by rw [hG, if_pos h]⟩
  have HG0 : Keep (re = 0 → G = getN (lst s) rv.toNat [] a1) := ⟨fun h => by rw [hG, if_neg (by simp [h])]⟩
  clear hI hb hrg hc' hG ha1
  go_enter Tryz.func88, Tryz.ntmps88
  refine wp_seq_k fun K1 hK1 => ?_
  refine wp_region_list (WL.out ?_)
  refine WL.val (by kernel_rfl) (.slice none 0 0) (by go_simp) ?_
  simp only [Act.put, List.setIfInBounds_toArray, List.set_cons_zero, List.set_cons_succ]
  refine WL.val (by kernel_rfl) (.nilIface) (by go_simp) ?_
  simp only [Act.put, List.setIfInBounds_toArray, List.set_cons_zero, List.set_cons_succ]
  refine WL.nil ?_
  refine hK1 _ _ ?_
  refine wp_seq_k fun K2 hK2 => ?_
  refine wp_region_list (WL.out ?_)
  refine WL.val (by kernel_rfl) (.pointer (some ⟨p, 0, none⟩)) (by go_simp) ?_
  simp only [Act.put, List.setIfInBounds_toArray, List.set_cons_zero, List.set_cons_succ]
  refine WL.callF (by kernel_rfl) 45 _ _ rfl Tryz.in45 #[ptr p, .int .u64 1024] (by simp [Act.eval]) ?_
  refine (HC.out).mono ?_
  rintro e w1 ⟨bad, er, rfl, h1, h2, h3⟩
  refine ⟨_, rfl, ?_⟩
  have H1 := Keep.mk h1
  have H2 := Keep.mk h2
  have H3 := Keep.mk h3
  clear h1 h2 h3
  simp only [Act.put, List.setIfInBounds_toArray, List.set_cons_zero, List.set_cons_succ]
  refine WL.val (by kernel_rfl) (.tuple #[.int .u64 rv, er]) (by go_simp) ?_
  simp only [Act.put, List.setIfInBounds_toArray, List.set_cons_zero, List.set_cons_succ]
  refine WL.val (by kernel_rfl) (.int .u64 rv) (by go_simp) ?_
  simp only [Act.put, List.setIfInBounds_toArray, List.set_cons_zero, List.set_cons_succ]
  refine WL.val (by kernel_rfl) (er) (by go_simp) ?_
  simp only [Act.put, List.setIfInBounds_toArray, List.set_cons_zero, List.set_cons_succ]
  refine WL.val (by kernel_rfl) (.int .u64 rv) (by go_simp) ?_
  simp only [Act.put, List.setIfInBounds_toArray, List.set_cons_zero, List.set_cons_succ]
  refine WL.val (by kernel_rfl) (er) (by go_simp) ?_
  simp only [Act.put, List.setIfInBounds_toArray, List.set_cons_zero, List.set_cons_succ]
  refine WL.nil ?_
  refine hK2 _ _ ?_
  refine wp_seq_k fun K3 hK3 => ?_
  refine wp_seq_k fun K4 hK4 => ?_
  by_cases hE : re = 0
  · rcases H3.out with ⟨e1, rfl, rfl⟩ | ⟨e1, _⟩
    rotate_left
    · exact absurd hE e1
    obtain ⟨n, hn⟩ : ∃ n : Nat, rv = (n : Int) := ⟨rv.toNat, by have := Hrg.out; omega⟩
    have Hn : Keep (n ≤ 1024) := ⟨by have := Hrg.out; omega⟩
    have HR : Keep (G = getN (lst s) n [] a1) := ⟨by rw [HG0.out hE, hn, Int.toNat_natCast]⟩
    subst hn
    refine wp_region_list (WL.out ?_)
    refine WL.val (by kernel_rfl) (.nilIface) (by go_simp) ?_
    simp only [Act.put, List.setIfInBounds_toArray, List.set_cons_zero, List.set_cons_succ]
    refine WL.val (by kernel_rfl) (.bool false) (by go_simp) ?_
    simp only [Act.put, List.setIfInBounds_toArray, List.set_cons_zero, List.set_cons_succ]
    refine WL.nil ?_
    refine hK4 _ _ ?_
    refine wp_cond_false rfl ?_
    refine wp_skip ?_
    refine hK3 _ _ ?_
    refine wp_seq_k fun K5 hK5 => ?_
    refine wp_region_list (WL.out ?_)
    refine WL.callF (by kernel_rfl) 110 _ _ rfl Tryz.in110 #[] (by simp) ?_
    refine (tab_any w1).mono ?_
    rintro e w2 ⟨m, rfl, hT2, hm2, hB2⟩
    refine ⟨_, rfl, ?_⟩
    have HT2 := Keep.mk hT2
    have HI2 : Keep (InAt w2 p s a1 none) := ⟨H1.out.blk.below hB2 H1.out.blk.lt, H1.out.le⟩
    have HG2 : Keep (Grown w w2 fun k => k = p) := ⟨H2.out.trans (Grown.below hB2)⟩
    clear hT2 hm2 hB2
    simp only [Act.put, List.setIfInBounds_toArray, List.set_cons_zero, List.set_cons_succ]
    refine WL.val (by kernel_rfl) (.map (some m)) (by go_simp) ?_
    simp only [Act.put, List.setIfInBounds_toArray, List.set_cons_zero, List.set_cons_succ]
    refine WL.nil ?_
    refine hK5 _ _ ?_
    refine wp_seq_k fun K6 hK6 => ?_
    refine wp_region_list (WL.out ?_)
    refine WL.bs (by kernel_rfl) 51 0 _ rfl #[] (by simp) _ _ (bsE w2) ?_
    have HO3 := Keep.mk (ownO_empty w2)
    have B3 : Keep (Below w2.heap.size w2 (w2.alloc (.cells #[] 188))) := ⟨below_new w2 _⟩
    generalize w2.alloc (.cells #[] 188) = w3 at *
    have HOn3 : Keep (∀ k, (Value.slice (some ⟨w2.heap.size, 0, none⟩) 0 0).ownBlock = some k → w.heap.size ≤ k) := ⟨fun k hk => by simp [Value.ownBlock] at hk; have := HG2.out.size; omega⟩
    have HI3 : Keep (InAt w3 p s a1 none) := ⟨HI2.out.blk.below B3.out HI2.out.blk.lt, HI2.out.le⟩
    have HT3 := Keep.mk (HT2.out.below B3.out)
    have HG3 : Keep (Grown w w3 fun k => k = p) := ⟨HG2.out.trans (Grown.below B3.out)⟩
    simp only [Act.put, List.setIfInBounds_toArray, List.set_cons_zero, List.set_cons_succ]
    refine WL.val (by kernel_rfl) (.slice (some ⟨w2.heap.size, 0, none⟩) 0 0) (by go_simp) ?_
    simp only [Act.put, List.setIfInBounds_toArray, List.set_cons_zero, List.set_cons_succ]
    refine WL.nil ?_
    refine hK6 _ _ ?_
    refine wp_seq_k fun K7 hK7 => ?_
    refine wp_seq_k fun K8 hK8 => ?_
    refine wp_region_list (WL.out ?_)
    refine WL.val (by kernel_rfl) (.int .u64 (n : Int)) (by go_simp) ?_
    simp only [Act.put, List.setIfInBounds_toArray, List.set_cons_zero, List.set_cons_succ]
    refine WL.val (by kernel_rfl) (.int .u64 0) (by go_simp) ?_
    simp only [Act.put, List.setIfInBounds_toArray, List.set_cons_zero, List.set_cons_succ]
    refine WL.nil ?_
    refine hK8 _ _ ?_
    refine wp_block ?_
    refine wp_loop (fun ac wr => ∃ (t : Nat) (u2 u3 u7 u8 u9 u22 u23 u24 u25 u26 u27 u28 u29 u30 u31 u32 u33 u34 u35 u36 u37 : Value), ac = { tmps := #[.pointer (some ⟨p, 0, none⟩), undef, u2, u3, .int .u64 (n : Int), .nilIface, .map (some m), u7, u8, u9, .tuple #[.int .u64 (n : Int), .nilIface], .pointer (some ⟨p, 0, none⟩), .tuple #[.int .u64 (n : Int), .nilIface], .int .u64 (n : Int), .nilIface, .nilIface, .bool false, undef, .map (some m), .slice (some ⟨w2.heap.size, 0, none⟩) 0 0, .int .u64 (n : Int), .int .u64 (t : Int), u22, u23, u24, u25, u26, u27, u28, u29, u30, u31, u32, u33, u34, u35, u36, u37, undef], defers := [] } ∧ t ≤ n ∧ ∃ l at_, getN (lst s) n [] a1 = getN (lst s) (n - t) l at_ ∧ InAt wr p s at_ none ∧ OwnO wr u7 l ∧ (∀ k, u7.ownBlock = some k → w.heap.size ≤ k) ∧ TabAt wr m ∧ (Grown w wr fun k => k = p) ∧ (∀ x ∈ l, OpOk x) ∧ l.length = t) (fun a _ => n - (intOf (a.tmps.getD 21 undef)).toNat) ⟨0, .slice none 0 0, .nilIface, .slice (some ⟨w2.heap.size, 0, none⟩) 0 0, undef, undef, undef, undef, undef, undef, undef, undef, undef, undef, undef, undef, undef, undef, undef, undef, undef, undef, rfl, by omega, [], a1, rfl, HI3.out, HO3.out, HOn3.out, HT3.out, HG3.out, by simp, rfl⟩ ?_
    rintro ac wr ⟨t, u2, u3, u7, u8, u9, u22, u23, u24, u25, u26, u27, u28, u29, u30, u31, u32, u33, u34, u35, u36, u37, rfl, ht, l, at_, hC, hI, hO, hOn, hT, hG, hOk, hLn⟩
    by_cases htl : t < n
    · have htl' : (t : Int) < (n : Int) := by omega
      obtain ⟨k1, hk1⟩ : ∃ k1, n - t = k1 + 1 := ⟨n - t - 1, by omega⟩
      rw [hk1, getN] at hC
      have hk2 : k1 = n - (t + 1) := by omega
      rw [hk2] at hC
      have hwr1 : IntKind.u64.wrap ((t : Int) + 1) = (t : Int) + 1 := by rw [IntKind.wrap_u64]; have := Hn.out; omega
      obtain ⟨oa, oc, rfl⟩ := hO.sl
      obtain ⟨G, hGG⟩ : ∃ G, Keep (G = getO (lst s) l at_) := ⟨_, ⟨rfl⟩⟩
      rw [← hGG.out] at hC
      have JC := Keep.mk hC
      have JI := Keep.mk hI
      have JO := Keep.mk hO
      have JOn := Keep.mk hOn
      have JT := Keep.mk hT
      have JG := Keep.mk hG
      have JOk := Keep.mk hOk
      have JLn := Keep.mk hLn
      clear hC hI hO hOn hT hG hOk hLn hk1 hk2
      refine wp_seq_k fun K9 hK9 => ?_
      refine wp_region_list (WL.out ?_)
      refine WL.val (by kernel_rfl) (.bool true) (by go_simp) ?_
      simp only [Act.put, List.setIfInBounds_toArray, List.set_cons_zero, List.set_cons_succ]
      refine WL.nil ?_
      refine hK9 _ _ ?_
      refine wp_seq_k fun K10 hK10 => ?_
      refine wp_cond_true rfl ?_
      refine wp_skip ?_
      refine hK10 _ _ ?_
      refine wp_seq_k fun K11 hK11 => ?_
      refine wp_block ?_
      refine wp_seq_k fun K12 hK12 => ?_
      refine wp_region_list (WL.out ?_)
      refine WL.val (by kernel_rfl) (.pointer (some ⟨p, 0, none⟩)) (by go_simp) ?_
      simp only [Act.put, List.setIfInBounds_toArray, List.set_cons_zero, List.set_cons_succ]
      refine WL.val (by kernel_rfl) (.map (some m)) (by go_simp) ?_
      simp only [Act.put, List.setIfInBounds_toArray, List.set_cons_zero, List.set_cons_succ]
      refine WL.val (by kernel_rfl) (.slice oa l.length oc) (by go_simp) ?_
      simp only [Act.put, List.setIfInBounds_toArray, List.set_cons_zero, List.set_cons_succ]
      refine WL.callF (by kernel_rfl) 111 _ _ rfl Tryz.in111 #[ptr p, .map (some m), .slice oa l.length oc] (by simp [Act.eval]) ?_
      refine (getOne_any p m s at_ _ l wr JI.out Hb.out JT.out (fun wx hx => (JO.out.grown hx (fun k hk e => JO.out.ne JI.out.blk (by decide) (e ▸ hk))).ops) (by have := JLn.out; have := Hn.out; omega)).mono ?_
      rintro e w1 ⟨y, er, rfl, hg1, hc1⟩
      refine ⟨_, rfl, ?_⟩
      rw [← hGG.out] at hc1
      have HG1 := Keep.mk hg1
      have HGw : Keep (Grown w w1 fun k => k = p) := ⟨JG.out.trans hg1⟩
      have HC1 := Keep.mk hc1
      have HO1 := Keep.mk (JO.out.grown hg1 (fun k hk e => JO.out.ne JI.out.blk (by decide) (e ▸ hk)))
      have HT1 := Keep.mk (JT.out.grown hg1 (fun e => JT.out.ne JI.out.blk e) (fun g cs hg e => blk_ne hg JI.out.blk (by decide) e))
      clear hg1 hc1
      simp only [Act.put, List.setIfInBounds_toArray, List.set_cons_zero, List.set_cons_succ]
      refine WL.val (by kernel_rfl) (.tuple #[.agg (opA y), er]) (by go_simp) ?_
      simp only [Act.put, List.setIfInBounds_toArray, List.set_cons_zero, List.set_cons_succ]
      refine WL.val (by kernel_rfl) (.agg (opA y)) (by go_simp) ?_
      simp only [Act.put, List.setIfInBounds_toArray, List.set_cons_zero, List.set_cons_succ]
      refine WL.val (by kernel_rfl) (er) (by go_simp) ?_
      simp only [Act.put, List.setIfInBounds_toArray, List.set_cons_zero, List.set_cons_succ]
      refine WL.new (by kernel_rfl) 188 rfl _ Tryz.new188 ?_
      simp only [Act.put, List.setIfInBounds_toArray, List.set_cons_zero, List.set_cons_succ]
      refine WL.storeR (by kernel_rfl) 188 (.tmp 8) (.tmp 28) rfl w1.heap.size (opA y) rfl rfl 188 (opA zeroOp) (Blk.new w1 188 _) (Tryz.size188B y) (opA_sizes _ _) (opA_one y) ?_
      have HY2 := Keep.mk ((Blk.new w1 188 (opA zeroOp)).setRow (opA y))
      have B2 : Keep (Below w1.heap.size w1 ((w1.alloc (.cells (opA zeroOp) 188)).setRow w1.heap.size (opA y))) := ⟨below_setRow (below_new w1 _) (Nat.le_refl _) _⟩
      generalize (w1.alloc (.cells (opA zeroOp) 188)).setRow w1.heap.size (opA y) = w2 at *
      have HG2 : Keep (Grown w w2 fun k => k = p) := ⟨HGw.out.trans (Grown.below B2.out)⟩
      have HO2 := Keep.mk (HO1.out.below B2.out)
      have HT2 := Keep.mk (HT1.out.below B2.out)
      simp only [Act.put]
      refine WL.val (by kernel_rfl) (er) (by go_simp) ?_
      simp only [Act.put, List.setIfInBounds_toArray, List.set_cons_zero, List.set_cons_succ]
      refine WL.nil ?_
      refine hK12 _ _ ?_
      refine wp_seq_k fun K13 hK13 => ?_
      refine wp_seq_k fun K14 hK14 => ?_
      by_cases hE : G.1 = 0
      · rcases HC1.out with ⟨e1, rfl, rfl, e3, e4⟩ | ⟨e1, _⟩
        rotate_left
        · exact absurd hE e1
        have HI2 : Keep (InAt w2 p s G.2.1 none) := ⟨e3.blk.below B2.out e3.blk.lt, e3.le⟩
        have K3 := Keep.mk e4
        clear e3 e4
        rw [if_pos hE] at JC
        refine wp_region_list (WL.out ?_)
        refine WL.val (by kernel_rfl) (.nilIface) (by go_simp) ?_
        simp only [Act.put, List.setIfInBounds_toArray, List.set_cons_zero, List.set_cons_succ]
        refine WL.val (by kernel_rfl) (.bool false) (by go_simp) ?_
        simp only [Act.put, List.setIfInBounds_toArray, List.set_cons_zero, List.set_cons_succ]
        refine WL.nil ?_
        refine hK14 _ _ ?_
        refine wp_cond_false rfl ?_
        refine wp_skip ?_
        refine hK13 _ _ ?_
        refine wp_region_list (WL.out ?_)
        refine WL.val (by kernel_rfl) (.slice oa l.length oc) (by go_simp) ?_
        simp only [Act.put, List.setIfInBounds_toArray, List.set_cons_zero, List.set_cons_succ]
        refine WL.row (by kernel_rfl) 188 (.tmp 8) rfl w1.heap.size rfl 188 (opA G.2.2) _ HY2.out Tryz.underlying188 rfl (Tryz.size188B _) ?_
        simp only [Act.put, List.setIfInBounds_toArray, List.set_cons_zero, List.set_cons_succ]
        refine WL.bs (by kernel_rfl) 51 1 _ rfl #[(0, .agg (opA G.2.2))] (by simp [Act.eval]) _ _ (bsO G.2.2 w2) ?_
        have HB3 := Keep.mk (Blk.new w2 188 (opA G.2.2))
        have B3 : Keep (Below w2.heap.size w2 (w2.alloc (.cells (opA G.2.2) 188))) := ⟨below_new w2 _⟩
        generalize w2.alloc (.cells (opA G.2.2) 188) = w3 at *
        simp only [Act.put, List.setIfInBounds_toArray, List.set_cons_zero, List.set_cons_succ]
        refine WL.appO (by kernel_rfl) (.tmp 33) (.tmp 35) rfl (.slice oa l.length oc) l w2.heap.size G.2.2 rfl rfl (HO2.out.below B3.out) HB3.out (by have := JLn.out; have := Hn.out; omega) ?_
        intro v4 w4 h1 h2 h3
        have HO4 := Keep.mk h1
        have Hg4 : Keep (Grown w w4 fun k => k = p) := ⟨(HG2.out.trans (Grown.below B3.out)).next h2 (fun k hk e => absurd (JOn.out k e) (by omega))⟩
        have HT4 := Keep.mk ((HT2.out.below B3.out).grown h2 (fun e => by
          rcases (HO2.out.below B3.out).form with ⟨e1, _⟩ | ⟨g, cap, cur, e1, hgb, _⟩
          · rw [e1] at e; simp [Value.ownBlock] at e
          · rw [e1] at e; simp [Value.ownBlock] at e; subst e; exact (HT2.out.below B3.out).ne hgb rfl) (fun g cs hg e => (HO2.out.below B3.out).ne hg (by decide) e))
        have HI4 : Keep (InAt w4 p s G.2.1 none) := ⟨h2.blk (HI2.out.blk.below B3.out HI2.out.blk.lt) (fun e => (HO2.out.below B3.out).ne (HI2.out.blk.below B3.out HI2.out.blk.lt) (by decide) e), HI2.out.le⟩
        have HOn4 : Keep (∀ k, v4.ownBlock = some k → w.heap.size ≤ k) := ⟨fun k hk => by
          rcases h3 with e | ⟨j, e, hj⟩
          · rw [e] at hk; exact JOn.out k hk
          · rw [e] at hk; injection hk with hk; have := HG2.out.size; have := B3.out.size; omega⟩
        clear h1 h2 h3
        simp only [Act.put, List.setIfInBounds_toArray, List.set_cons_zero, List.set_cons_succ]
        refine WL.val (by kernel_rfl) (v4) (by go_simp) ?_
        simp only [Act.put, List.setIfInBounds_toArray, List.set_cons_zero, List.set_cons_succ]
        refine WL.nil ?_
        refine hK11 _ _ ?_
        refine wp_region_list (WL.out ?_)
        refine WL.val (by kernel_rfl) (.int .u64 ((t : Int) + 1)) (by go_simp) ?_
        simp only [Act.put, List.setIfInBounds_toArray, List.set_cons_zero, List.set_cons_succ]
        refine WL.val (by kernel_rfl) (.int .u64 ((t : Int) + 1)) (by go_simp) ?_
        simp only [Act.put, List.setIfInBounds_toArray, List.set_cons_zero, List.set_cons_succ]
        refine WL.nil ?_
        refine ⟨⟨t + 1, u2, u3, v4, .pointer (some ⟨w1.heap.size, 0, none⟩), .nilIface, .bool true, .tuple #[.agg (opA G.2.2), .nilIface], .pointer (some ⟨p, 0, none⟩), .map (some m), .slice oa l.length oc, .tuple #[.agg (opA G.2.2), .nilIface], .agg (opA G.2.2), .nilIface, .nilIface, .bool false, u32, .slice oa l.length oc, .agg (opA G.2.2), .slice (some ⟨w2.heap.size, 0, none⟩) 1 1, v4, .int .u64 ((t : Int) + 1), rfl, by omega, l ++ [G.2.2], G.2.1, JC.out, HI4.out, HO4.out, HOn4.out, HT4.out, Hg4.out, ?_, by rw [List.length_append]; simp [JLn.out]⟩, ?_⟩
        · intro z hz; rcases List.mem_append.1 hz with hz | hz; exact JOk.out z hz; simp at hz; subst hz; exact K3.out
        · simp only [intOf]; show n - ((t : Int) + 1).toNat < n - ((t : Int)).toNat; omega
      · rcases HC1.out with ⟨e1, _⟩ | ⟨_, q, hq, rfl, hbad⟩
        · exact absurd e1 hE
        have Hbad := Keep.mk (hbad.below B2.out hbad.lt)
        have Hq := Keep.mk (Nat.le_trans JG.out.size hq)
        clear hbad hq
        unfold err
        rw [if_neg hE] at JC
        refine wp_region_list (WL.out ?_)
        refine WL.val (by kernel_rfl) (.iface 121 (ptr q)) (by go_simp) ?_
        simp only [Act.put, List.setIfInBounds_toArray, List.set_cons_zero, List.set_cons_succ]
        refine WL.val (by kernel_rfl) (.bool true) (by go_simp) ?_
        simp only [Act.put, List.setIfInBounds_toArray, List.set_cons_zero, List.set_cons_succ]
        refine WL.nil ?_
        refine hK14 _ _ ?_
        refine wp_cond_true rfl ?_
        refine wp_seq_k fun K15 hK15 => ?_
        refine wp_region_list (WL.out ?_)
        refine WL.val (by kernel_rfl) (.iface 121 (ptr q)) (by go_simp) ?_
        simp only [Act.put, List.setIfInBounds_toArray, List.set_cons_zero, List.set_cons_succ]
        refine WL.val (by kernel_rfl) (.slice none 0 0) (by go_simp) ?_
        simp only [Act.put, List.setIfInBounds_toArray, List.set_cons_zero, List.set_cons_succ]
        refine WL.val (by kernel_rfl) (.iface 121 (ptr q)) (by go_simp) ?_
        simp only [Act.put, List.setIfInBounds_toArray, List.set_cons_zero, List.set_cons_succ]
        refine WL.nil ?_
        refine hK15 _ _ ?_
        refine wp_ret ?_
        go_ret2
        refine ⟨.slice none 0 0, err q, rfl, HG2.out, ?_⟩
        rw [HR.out, JC.out]
        exact .inr ⟨hE, rfl, q, Hq.out, rfl, Hbad.out⟩
    · have hte : Keep (t = n) := ⟨by omega⟩
      have htl' : ¬ (t : Int) < (n : Int) := by omega
      refine wp_seq_k fun K16 hK16 => ?_
      refine wp_region_list (WL.out ?_)
      refine WL.val (by kernel_rfl) (.bool false) (by go_simp) ?_
      simp only [Act.put, List.setIfInBounds_toArray, List.set_cons_zero, List.set_cons_succ]
      refine WL.nil ?_
      refine hK16 _ _ ?_
      refine wp_seq_k fun K17 hK17 => ?_
      refine wp_cond_false rfl ?_
      refine wp_exit ?_
      refine hK7 _ _ ?_
      refine wp_seq_k fun K18 hK18 => ?_
      refine wp_region_list (WL.out ?_)
      refine WL.val (by kernel_rfl) (u7) (by go_simp) ?_
      simp only [Act.put, List.setIfInBounds_toArray, List.set_cons_zero, List.set_cons_succ]
      refine WL.val (by kernel_rfl) (u7) (by go_simp) ?_
      simp only [Act.put, List.setIfInBounds_toArray, List.set_cons_zero, List.set_cons_succ]
      refine WL.val (by kernel_rfl) (.nilIface) (by go_simp) ?_
      simp only [Act.put, List.setIfInBounds_toArray, List.set_cons_zero, List.set_cons_succ]
      refine WL.nil ?_
      refine hK18 _ _ ?_
      refine wp_ret ?_
      go_ret2
      rw [hte.out, Nat.sub_self, getN] at hC
      refine ⟨u7, .nilIface, rfl, hG, ?_⟩
      rw [HR.out, hC]
      exact .inl ⟨rfl, rfl, hO, hOn, hI, hOk, by rw [hLn]; have := Hn.out; omega⟩
  · rcases H3.out with ⟨e1, _, _⟩ | ⟨_, q, hq, rfl, rfl, hbad⟩
    · exact absurd e1 hE
    have Hbad := Keep.mk hbad
    clear hbad
    unfold err
    refine wp_region_list (WL.out ?_)
    refine WL.val (by kernel_rfl) (.iface 121 (ptr q)) (by go_simp) ?_
    simp only [Act.put, List.setIfInBounds_toArray, List.set_cons_zero, List.set_cons_succ]
    refine WL.val (by kernel_rfl) (.bool true) (by go_simp) ?_
    simp only [Act.put, List.setIfInBounds_toArray, List.set_cons_zero, List.set_cons_succ]
    refine WL.nil ?_
    refine hK4 _ _ ?_
    refine wp_cond_true rfl ?_
    refine wp_seq_k fun K19 hK19 => ?_
    refine wp_region_list (WL.out ?_)
    refine WL.val (by kernel_rfl) (.iface 121 (ptr q)) (by go_simp) ?_
    simp only [Act.put, List.setIfInBounds_toArray, List.set_cons_zero, List.set_cons_succ]
    refine WL.val (by kernel_rfl) (.slice none 0 0) (by go_simp) ?_
    simp only [Act.put, List.setIfInBounds_toArray, List.set_cons_zero, List.set_cons_succ]
    refine WL.val (by kernel_rfl) (.iface 121 (ptr q)) (by go_simp) ?_
    simp only [Act.put, List.setIfInBounds_toArray, List.set_cons_zero, List.set_cons_succ]
    refine WL.nil ?_
    refine hK19 _ _ ?_
    refine wp_ret ?_
    go_ret2
    exact ⟨.slice none 0 0, err q, rfl, H2.out, by rw [HG1.out hE]; exact .inr ⟨hE, rfl, q, hq, rfl, Hbad.out⟩⟩
end Go.Proofs.YtdkhjeofjhcceaaGreatDoor.Nd
namespace Go.Proofs.YtdkhjeofjhcceaaGreatDoor.Nd
open Go.RowKit
set_option linter.unusedSimpArgs false
set_option linter.unusedVariables false

section
variable {P : Program} {ops : Array Oper} {rest : List Oper} {o : Oper} {a : Act} {w : World} {Q : Exit → Act → World → Prop}
theorem WL.callP (hw : Region.wanted o (yielded ops a.tmps) = true) (f : FuncId) (args : Array Operand) (ts : Array TypeId) (ho : o.op = .call { callee := .value (.func f), args := args, argTypes := ts })
    (hf : ∀ (w : World) (vs : Array Value), (callFunc f vs).run P w = .ok (.enter f vs) w) (vs : Array Value) (hvs : args.map a.eval = vs)
    (hc : Calls P f vs w fun e w' => (∃ v, e = .returned v ∧ WL P ops Q rest (a.put o.dst v) w') ∨ (∃ ch, e = .panicked ch ∧ Q (.panic ch) a w')) : WL P ops Q (o :: rest) a w :=
  ⟨wpList_wanted hw fun K hK => by
    unfold Oper.wp
    rw [run_callF a o f args ts ho hf w, Oper.upon_enter, hvs]
    refine hc.mono ?_
    rintro e w' (⟨v, rfl, hr⟩ | ⟨ch, rfl, hr⟩)
    · exact hK _ _ hr.out
    · exact hr⟩
theorem WL.panic (hw : Region.wanted o (yielded ops a.tmps) = true) (x : Operand) (ho : o.op = .panic x) (t : TypeId) (v : Value) (hx : a.eval x = .iface t v)
    (h : Q (.panic [{ v := .iface t v, recovered := false }]) a w) : WL P ops Q (o :: rest) a w :=
  ⟨wpList_wanted hw fun K hK => by
    unfold Oper.wp execOp
    simp only [ho, hx, Sem.run_bind, run_panic_iface]
    exact h⟩
end
def wr (q : Nat) : PanicEntry := { v := .iface 84 (.agg #[err q]), recovered := false }
theorem Tryz.in29 (w : World) (vs : Array Value) : (callFunc 29 vs).run Tryz.prog w = .ok (.enter 29 vs) w := by kernel_rfl
theorem Tryz.in53 (w : World) (vs : Array Value) : (callFunc 53 vs).run Tryz.prog w = .ok (.enter 53 vs) w := by kernel_rfl
theorem Tryz.in44 (w : World) (vs : Array Value) : (callFunc 44 vs).run Tryz.prog w = .ok (.enter 44 vs) w := by kernel_rfl
theorem Tryz.in87 (w : World) (vs : Array Value) : (callFunc 87 vs).run Tryz.prog w = .ok (.enter 87 vs) w := by kernel_rfl
theorem Tryz.in107 (w : World) (vs : Array Value) : (callFunc 107 vs).run Tryz.prog w = .ok (.enter 107 vs) w := by kernel_rfl
theorem Tryz.in76 (w : World) (vs : Array Value) : (callFunc 76 vs).run Tryz.prog w = .ok (.enter 76 vs) w := by kernel_rfl
theorem Tryz.in109 (w : World) (vs : Array Value) : (callFunc 109 vs).run Tryz.prog w = .ok (.enter 109 vs) w := by kernel_rfl
theorem Tryz.in85 (w : World) (vs : Array Value) : (callFunc 85 vs).run Tryz.prog w = .ok (.enter 85 vs) w := by kernel_rfl
theorem wr_built (q : Nat) : Tryz.prog.built 84 [(0, .iface 121 (ptr q))] = some #[.iface 121 (ptr q)] := by kernel_rfl
theorem giveUp_any (q : Nat) (w : World) : Calls Tryz.prog 29 #[err q] w fun e w' => e = .panicked [wr q] ∧ w' = w := by
  unfold wr err
  go_enter Tryz.func29, Tryz.ntmps29
  refine wp_region_list (WL.out ?_)
  refine WL.val (by kernel_rfl) (.iface 121 (ptr q)) (by go_simp) ?_
  simp only [Act.put, List.setIfInBounds_toArray, List.set_cons_zero, List.set_cons_succ]
  refine WL.bld (by kernel_rfl) 84 _ rfl [(0, .iface 121 (ptr q))] (by simp [Act.eval]) _ (wr_built _) ?_
  simp only [Act.put, List.setIfInBounds_toArray, List.set_cons_zero, List.set_cons_succ]
  refine WL.val (by kernel_rfl) (.iface 84 (.agg #[.iface 121 (ptr q)])) (by go_simp) ?_
  simp only [Act.put, List.setIfInBounds_toArray, List.set_cons_zero, List.set_cons_succ]
  refine WL.panic (by kernel_rfl) (.tmp 4) rfl 84 _ rfl ?_
  exact ⟨rfl, rfl, rfl⟩
theorem bad_built (why : Int) (a : Nat) : Tryz.prog.built 123 [(0, .int .i64 why), (1, .int .i64 (a : Int))] = some #[.int .i64 why, .int .i64 (a : Int)] := by kernel_rfl
theorem at_any (why : Int) (a : Nat) (w : World) : Calls Tryz.prog 53 #[.int .i64 why, .int .i64 (a : Int)] w fun e w' => e = .panicked [wr w.heap.size] ∧ BadAt w' w.heap.size why a ∧ Below w.heap.size w w' := by
  go_enter Tryz.func53, Tryz.ntmps53
  refine wp_region_list (WL.out ?_)
  refine WL.val (by kernel_rfl) (.int .i64 why) (by go_simp) ?_
  simp only [Act.put, List.setIfInBounds_toArray, List.set_cons_zero, List.set_cons_succ]
  refine WL.val (by kernel_rfl) (.int .i64 (a : Int)) (by go_simp) ?_
  simp only [Act.put, List.setIfInBounds_toArray, List.set_cons_zero, List.set_cons_succ]
  refine WL.bld (by kernel_rfl) 123 _ rfl [(0, .int .i64 why), (1, .int .i64 (a : Int))] (by simp [Act.eval]) _ (bad_built why a) ?_
  simp only [Act.put, List.setIfInBounds_toArray, List.set_cons_zero, List.set_cons_succ]
  refine WL.box (by kernel_rfl) 123 (.tmp 6) rfl _ rfl ?_
  have HBd : Keep (BadAt (w.alloc (.cells #[.int .i64 why, .int .i64 (a : Int)] 123)) w.heap.size why a) := ⟨Blk.new w 123 _⟩
  have HB : Keep (Below w.heap.size w (w.alloc (.cells #[.int .i64 why, .int .i64 (a : Int)] 123))) := ⟨below_new w _⟩
  generalize w.alloc (.cells #[.int .i64 why, .int .i64 (a : Int)] 123) = w1 at *
  simp only [Act.put, List.setIfInBounds_toArray, List.set_cons_zero, List.set_cons_succ]
  refine WL.val (by kernel_rfl) (.iface 121 (.pointer (some ⟨w.heap.size, 0, none⟩))) (by go_simp) ?_
  simp only [Act.put, List.setIfInBounds_toArray, List.set_cons_zero, List.set_cons_succ]
  refine WL.callP (by kernel_rfl) 29 _ _ rfl Tryz.in29 #[err w.heap.size] (by simp [Act.eval, err, ptr]) ?_
  refine (giveUp_any w.heap.size w1).mono ?_
  rintro e w' ⟨rfl, rfl⟩
  refine .inr ⟨_, rfl, ?_⟩
  exact ⟨rfl, rfl, HBd.out, HB.out⟩
theorem must47_ok (x : Value) (w : World) : Calls Tryz.prog 44 #[x, .nilIface] w fun e w' => e = .returned x ∧ w' = w := by
  go_enter Tryz.func44, Tryz.ntmps44
  go_wp2
  go_ret
  exact ⟨rfl, rfl⟩
theorem must47_bad (x : Value) (q : Nat) (w : World) : Calls Tryz.prog 44 #[x, err q] w fun e w' => e = .panicked [wr q] ∧ w' = w := by
  have HG := Keep.mk (giveUp_any q w)
  unfold err at HG ⊢
  go_enter Tryz.func44, Tryz.ntmps44
  go_wp2_with fail
  refine HG.out.mono ?_
  rintro e w' ⟨rfl, rfl⟩
  exact ⟨rfl, rfl, rfl⟩
theorem must52_ok (x : Value) (w : World) : Calls Tryz.prog 87 #[x, .nilIface] w fun e w' => e = .returned x ∧ w' = w := by
  go_enter Tryz.func87, Tryz.ntmps87
  go_wp2
  go_ret
  exact ⟨rfl, rfl⟩
theorem must52_bad (x : Value) (q : Nat) (w : World) : Calls Tryz.prog 87 #[x, err q] w fun e w' => e = .panicked [wr q] ∧ w' = w := by
  have HG := Keep.mk (giveUp_any q w)
  unfold err at HG ⊢
  go_enter Tryz.func87, Tryz.ntmps87
  go_wp2_with fail
  refine HG.out.mono ?_
  rintro e w' ⟨rfl, rfl⟩
  exact ⟨rfl, rfl, rfl⟩
theorem must81_ok (x : Value) (w : World) : Calls Tryz.prog 107 #[x, .nilIface] w fun e w' => e = .returned x ∧ w' = w := by
  go_enter Tryz.func107, Tryz.ntmps107
  go_wp2
  go_ret
  exact ⟨rfl, rfl⟩
theorem must81_bad (x : Value) (q : Nat) (w : World) : Calls Tryz.prog 107 #[x, err q] w fun e w' => e = .panicked [wr q] ∧ w' = w := by
  have HG := Keep.mk (giveUp_any q w)
  unfold err at HG ⊢
  go_enter Tryz.func107, Tryz.ntmps107
  go_wp2_with fail
  refine HG.out.mono ?_
  rintro e w' ⟨rfl, rfl⟩
  exact ⟨rfl, rfl, rfl⟩
theorem mustH_ok (c : Nat → Int) (w : World) : Calls Tryz.prog 76 #[.agg (bytesA 32 c), .nilIface] w fun e w' => e = .returned (.agg (bytesA 32 c)) ∧ Below w.heap.size w w' := by
  go_enter Tryz.func76, Tryz.ntmps76
  refine wp_seq_k fun K1 hK1 => ?_
  refine wp_region_list (WL.out ?_)
  refine WL.box (by kernel_rfl) 50 (.tmp 0) rfl _ rfl ?_
  have HX1 := Keep.mk (Blk.new w 50 (bytesA 32 c))
  have B1 := Keep.mk (below_new w (.cells (bytesA 32 c) 50))
  generalize w.alloc (.cells (bytesA 32 c) 50) = w1 at *
  simp only [Act.put, List.setIfInBounds_toArray, List.set_cons_zero, List.set_cons_succ]
  refine WL.new (by kernel_rfl) 50 rfl _ Tryz.new50 ?_
  have HX2 := Keep.mk (HX1.out.alloc (.cells (bytesA 32 fun _ => 0) 50))
  have HY2 := Keep.mk (Blk.new w1 50 (bytesA 32 fun _ => 0))
  have B2 : Keep (Below w.heap.size w (w1.alloc (.cells (bytesA 32 fun _ => 0) 50))) := ⟨B1.out.trans ((below_new w1 _).mono B1.out.size)⟩
  have hs : Keep (w.heap.size < w1.heap.size) := ⟨HX1.out.lt⟩
  have hne : Keep (w.heap.size ≠ w1.heap.size) := ⟨by have := hs.out; omega⟩
  generalize w1.alloc (.cells (bytesA 32 fun _ => 0) 50) = w2 at *
  simp only [Act.put, List.setIfInBounds_toArray, List.set_cons_zero, List.set_cons_succ]
  refine WL.nil ?_
  refine hK1 _ _ ?_
  refine wp_seq_k fun K2 hK2 => ?_
  refine wp_seq_k fun K3 hK3 => ?_
  refine wp_region_list (WL.out ?_)
  refine WL.val (by kernel_rfl) (.nilIface) (by go_simp) ?_
  simp only [Act.put, List.setIfInBounds_toArray, List.set_cons_zero, List.set_cons_succ]
  refine WL.val (by kernel_rfl) (.bool false) (by go_simp) ?_
  simp only [Act.put, List.setIfInBounds_toArray, List.set_cons_zero, List.set_cons_succ]
  refine WL.nil ?_
  refine hK3 _ _ ?_
  refine wp_cond_false rfl ?_
  refine wp_skip ?_
  refine hK2 _ _ ?_
  refine wp_seq_k fun K4 hK4 => ?_
  refine wp_region_list (WL.out ?_)
  refine WL.row (by kernel_rfl) 50 (.tmp 2) rfl w.heap.size rfl 50 (bytesA 32 c) _ HX2.out Tryz.underlying50 rfl (Tryz.size50B _) ?_
  simp only [Act.put, List.setIfInBounds_toArray, List.set_cons_zero, List.set_cons_succ]
  refine WL.storeR (by kernel_rfl) 50 (.tmp 4) (.tmp 9) rfl w1.heap.size (bytesA 32 c) rfl rfl 50 (bytesA 32 fun _ => 0) HY2.out (Tryz.size50B _) (bytesA_sizes _ _ _) (bytesA_one _ _) ?_
  have HY3 := Keep.mk (HY2.out.setRow (bytesA 32 c))
  have B3 : Keep (Below w.heap.size w (w2.setRow w1.heap.size (bytesA 32 c))) := ⟨below_setRow B2.out (by have := hs.out; omega) _⟩
  generalize w2.setRow w1.heap.size (bytesA 32 c) = w3 at *
  simp only [Act.put]
  refine WL.nil ?_
  refine hK4 _ _ ?_
  refine wp_ret ?_
  refine bodyPost_ret (v := .agg (bytesA 32 c)) (results_cell_row Tryz.results76 _ _ w1.heap.size 50 _ (0, 0) _ rfl HY3.out Tryz.underlying50 rfl (Tryz.size50B _)) rfl ?_
  exact ⟨rfl, B3.out⟩
theorem mustH_bad (c : Nat → Int) (q : Nat) (w : World) : Calls Tryz.prog 76 #[.agg (bytesA 32 c), err q] w fun e w' => e = .panicked [wr q] ∧ Below w.heap.size w w' := by
  unfold err
  go_enter Tryz.func76, Tryz.ntmps76
  refine wp_seq_k fun K1 hK1 => ?_
  refine wp_region_list (WL.out ?_)
  refine WL.box (by kernel_rfl) 50 (.tmp 0) rfl _ rfl ?_
  have HX1 := Keep.mk (Blk.new w 50 (bytesA 32 c))
  have B1 := Keep.mk (below_new w (.cells (bytesA 32 c) 50))
  generalize w.alloc (.cells (bytesA 32 c) 50) = w1 at *
  simp only [Act.put, List.setIfInBounds_toArray, List.set_cons_zero, List.set_cons_succ]
  refine WL.new (by kernel_rfl) 50 rfl _ Tryz.new50 ?_
  have HX2 := Keep.mk (HX1.out.alloc (.cells (bytesA 32 fun _ => 0) 50))
  have HY2 := Keep.mk (Blk.new w1 50 (bytesA 32 fun _ => 0))
  have B2 : Keep (Below w.heap.size w (w1.alloc (.cells (bytesA 32 fun _ => 0) 50))) := ⟨B1.out.trans ((below_new w1 _).mono B1.out.size)⟩
  have hs : Keep (w.heap.size < w1.heap.size) := ⟨HX1.out.lt⟩
  have hne : Keep (w.heap.size ≠ w1.heap.size) := ⟨by have := hs.out; omega⟩
  generalize w1.alloc (.cells (bytesA 32 fun _ => 0) 50) = w2 at *
  simp only [Act.put, List.setIfInBounds_toArray, List.set_cons_zero, List.set_cons_succ]
  refine WL.nil ?_
  refine hK1 _ _ ?_
  refine wp_seq_k fun K2 hK2 => ?_
  refine wp_seq_k fun K3 hK3 => ?_
  refine wp_region_list (WL.out ?_)
  refine WL.val (by kernel_rfl) (.iface 121 (ptr q)) (by go_simp) ?_
  simp only [Act.put, List.setIfInBounds_toArray, List.set_cons_zero, List.set_cons_succ]
  refine WL.val (by kernel_rfl) (.bool true) (by go_simp) ?_
  simp only [Act.put, List.setIfInBounds_toArray, List.set_cons_zero, List.set_cons_succ]
  refine WL.nil ?_
  refine hK3 _ _ ?_
  refine wp_cond_true rfl ?_
  refine wp_region_list (WL.out ?_)
  refine WL.val (by kernel_rfl) (.iface 121 (ptr q)) (by go_simp) ?_
  simp only [Act.put, List.setIfInBounds_toArray, List.set_cons_zero, List.set_cons_succ]
  refine WL.callP (by kernel_rfl) 29 _ _ rfl Tryz.in29 #[err q] (by simp [Act.eval, err]) ?_
  refine (giveUp_any q w2).mono ?_
  rintro e w' ⟨rfl, rfl⟩
  refine .inr ⟨_, rfl, ?_⟩
  try simp only [Exit.inBlock, Exit.then]
  refine ⟨rfl, ?_⟩
  exact ⟨rfl, B2.out⟩
theorem isAuthor_any (x : Int) (w : World) : Calls Tryz.prog 109 #[.int .i64 x] w fun e w' => e = .returned (.bool (decide (1 ≤ x ∧ x ≤ 8))) ∧ w' = w := by
  go_enter Tryz.func109, Tryz.ntmps109
  refine wp_seq_k fun K1 hK1 => ?_
  refine wp_region_list (WL.out ?_)
  refine WL.val (by kernel_rfl) (.bool false) (by go_simp) ?_
  simp only [Act.put, List.setIfInBounds_toArray, List.set_cons_zero, List.set_cons_succ]
  refine WL.nil ?_
  refine hK1 _ _ ?_
  refine wp_seq_k fun K2 hK2 => ?_
  refine wp_region_list (WL.out ?_)
  refine WL.val (by kernel_rfl) (.int .i64 x) (by go_simp) ?_
  simp only [Act.put, List.setIfInBounds_toArray, List.set_cons_zero, List.set_cons_succ]
  by_cases h1_1 : 1 ≤ x
  · skip
    refine WL.val (by kernel_rfl) (.bool true) (by go_simp) ?_
    simp only [Act.put, List.setIfInBounds_toArray, List.set_cons_zero, List.set_cons_succ]
    refine WL.val (by kernel_rfl) (.bool true) (by go_simp) ?_
    simp only [Act.put, List.setIfInBounds_toArray, List.set_cons_zero, List.set_cons_succ]
    refine WL.val (by kernel_rfl) (.int .i64 x) (by go_simp) ?_
    simp only [Act.put, List.setIfInBounds_toArray, List.set_cons_zero, List.set_cons_succ]
    by_cases h1_4 : x ≤ 8
    · skip
      refine WL.val (by kernel_rfl) (.bool true) (by go_simp) ?_
      simp only [Act.put, List.setIfInBounds_toArray, List.set_cons_zero, List.set_cons_succ]
      refine WL.val (by kernel_rfl) (.bool true) (by go_simp) ?_
      simp only [Act.put, List.setIfInBounds_toArray, List.set_cons_zero, List.set_cons_succ]
      refine WL.val (by kernel_rfl) (.bool true) (by go_simp) ?_
      simp only [Act.put, List.setIfInBounds_toArray, List.set_cons_zero, List.set_cons_succ]
      refine WL.nil ?_
      refine hK2 _ _ ?_
      refine wp_ret ?_
      go_ret
      exact ⟨by simp [*], rfl⟩
    · skip
      refine WL.val (by kernel_rfl) (.bool false) (by go_simp) ?_
      simp only [Act.put, List.setIfInBounds_toArray, List.set_cons_zero, List.set_cons_succ]
      refine WL.val (by kernel_rfl) (.bool false) (by go_simp) ?_
      simp only [Act.put, List.setIfInBounds_toArray, List.set_cons_zero, List.set_cons_succ]
      refine WL.val (by kernel_rfl) (.bool false) (by go_simp) ?_
      simp only [Act.put, List.setIfInBounds_toArray, List.set_cons_zero, List.set_cons_succ]
      refine WL.nil ?_
      refine hK2 _ _ ?_
      refine wp_ret ?_
      go_ret
      exact ⟨by simp [*], rfl⟩
  · skip
    refine WL.val (by kernel_rfl) (.bool false) (by go_simp) ?_
    simp only [Act.put, List.setIfInBounds_toArray, List.set_cons_zero, List.set_cons_succ]
    refine WL.val (by kernel_rfl) (.bool false) (by go_simp) ?_
    simp only [Act.put, List.setIfInBounds_toArray, List.set_cons_zero, List.set_cons_succ]
    refine WL.skip (by kernel_rfl) ?_
    simp only [Act.put, List.setIfInBounds_toArray, List.set_cons_zero, List.set_cons_succ]
    refine WL.skip (by kernel_rfl) ?_
    simp only [Act.put, List.setIfInBounds_toArray, List.set_cons_zero, List.set_cons_succ]
    refine WL.val (by kernel_rfl) (.bool false) (by go_simp) ?_
    simp only [Act.put, List.setIfInBounds_toArray, List.set_cons_zero, List.set_cons_succ]
    refine WL.val (by kernel_rfl) (.bool false) (by go_simp) ?_
    simp only [Act.put, List.setIfInBounds_toArray, List.set_cons_zero, List.set_cons_succ]
    refine WL.nil ?_
    refine hK2 _ _ ?_
    refine wp_ret ?_
    go_ret
    exact ⟨by simp [*], rfl⟩
theorem isAuthor_yes (x : Int) (w : World) (h : 1 ≤ x ∧ x ≤ 8) : Calls Tryz.prog 109 #[.int .i64 x] w fun e w' => e = .returned (.bool true) ∧ w' = w := by
  have := isAuthor_any x w
  rw [decide_eq_true h] at this
  exact this
theorem isAuthor_no (x : Int) (w : World) (h : ¬ (1 ≤ x ∧ x ≤ 8)) : Calls Tryz.prog 109 #[.int .i64 x] w fun e w' => e = .returned (.bool false) ∧ w' = w := by
  have := isAuthor_any x w
  rw [decide_eq_false h] at this
  exact this
theorem clockFits_any (x y : Int) (w : World) : Calls Tryz.prog 85 #[.int .i64 x, .int .i64 y] w fun e w' => e = .returned (.bool ((x == 1) == (y == 0))) ∧ w' = w := by
  go_enter Tryz.func85, Tryz.ntmps85
  refine wp_seq_k fun K1 hK1 => ?_
  refine wp_region_list (WL.out ?_)
  refine WL.val (by kernel_rfl) (.bool false) (by go_simp) ?_
  simp only [Act.put, List.setIfInBounds_toArray, List.set_cons_zero, List.set_cons_succ]
  refine WL.nil ?_
  refine hK1 _ _ ?_
  refine wp_seq_k fun K2 hK2 => ?_
  refine wp_region_list (WL.out ?_)
  refine WL.val (by kernel_rfl) (.int .i64 x) (by go_simp) ?_
  simp only [Act.put, List.setIfInBounds_toArray, List.set_cons_zero, List.set_cons_succ]
  refine WL.val (by kernel_rfl) (.bool (x == 1)) (by go_simp) ?_
  simp only [Act.put, List.setIfInBounds_toArray, List.set_cons_zero, List.set_cons_succ]
  refine WL.val (by kernel_rfl) (.int .i64 y) (by go_simp) ?_
  simp only [Act.put, List.setIfInBounds_toArray, List.set_cons_zero, List.set_cons_succ]
  refine WL.val (by kernel_rfl) (.bool (y == 0)) (by go_simp) ?_
  simp only [Act.put, List.setIfInBounds_toArray, List.set_cons_zero, List.set_cons_succ]
  refine WL.val (by kernel_rfl) (.bool ((x == 1) == (y == 0))) (by go_simp) ?_
  simp only [Act.put, List.setIfInBounds_toArray, List.set_cons_zero, List.set_cons_succ]
  refine WL.val (by kernel_rfl) (.bool ((x == 1) == (y == 0))) (by go_simp) ?_
  simp only [Act.put, List.setIfInBounds_toArray, List.set_cons_zero, List.set_cons_succ]
  refine WL.nil ?_
  refine hK2 _ _ ?_
  refine wp_ret ?_
  go_ret
  exact ⟨rfl, rfl⟩
theorem clockFits_is (x y : Int) (w : World) (b : Bool) (h : ((x == 1) == (y == 0)) = b) : Calls Tryz.prog 85 #[.int .i64 x, .int .i64 y] w fun e w' => e = .returned (.bool b) ∧ w' = w := by
  have := clockFits_any x y w
  rw [h] at this
  exact this
end Go.Proofs.YtdkhjeofjhcceaaGreatDoor.Nd
