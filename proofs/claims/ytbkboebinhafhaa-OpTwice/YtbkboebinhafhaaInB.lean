import Derived.Test.YtbkboebinhafhaaFirst
namespace Go.Proofs.Ytbkboebinhafhaa
open Go.RowKit

theorem lst_extract (s : ByteArray) (a b : Nat) : lst (s.extract a b) = ((lst s).drop a).take (b - a) := by
  unfold lst
  rw [← List.map_drop, ← List.map_take]
  congr 1
  rw [ByteArray.data_extract, Array.toList_extract]
theorem lst_from (s : ByteArray) (a : Nat) : lst (s.extract a s.size) = (lst s).drop a := by
  rw [lst_extract, List.take_of_length_le (by rw [List.length_drop, lst_len]; omega)]
theorem fstG_shape (D : List Int) : ∀ (i : Nat) (x : Int), ((fstG D i x).2.2 ≠ 0 → (fstG D i x).1 = 0 ∧ (fstG D i x).2.1 = 0) ∧ ((fstG D i x).2.2 = 0 → (i : Int) < (fstG D i x).2.1 ∧ (fstG D i x).2.1 ≤ i + D.length) := by
  induction D with
  | nil => intro i x; simp [fstG]
  | cons c D ih =>
    intro i x
    rw [fstG]
    by_cases h1 : i = 9 ∧ 1 < c
    · rw [if_pos h1]; simp
    · rw [if_neg h1]
      by_cases h2 : c = 0 ∧ 0 < i
      · rw [if_pos h2]; simp
      · rw [if_neg h2]
        by_cases h3 : c < 128
        · rw [if_pos h3]; simp; omega
        · rw [if_neg h3]
          have h := ih (i + 1) (x + c % 128 * 2 ^ (7 * i))
          refine ⟨h.1, fun h0 => ?_⟩
          have := h.2 h0
          simp only [List.length_cons]
          omega
theorem fstM_shape (D : List Int) (most : Int) : ((fstM D most).2.2 ≠ 0 → (fstM D most).1 = 0 ∧ (fstM D most).2.1 = 0) ∧ 0 ≤ (fstM D most).2.1 ∧ (fstM D most).2.1 ≤ D.length := by
  have h := fstG_shape D 0 0
  unfold fstM
  split
  · simp
  · refine ⟨h.1, ?_⟩
    by_cases h0 : (fstG D 0 0).2.2 = 0
    · have := h.2 h0; omega
    · have := h.1 h0; omega

/-- How an error stands behind a call that began in w. -/
def ErrAs (w w' : World) (why : Int) (a : Nat) (bad : Option Nat) (er : Value) : Prop :=
  (why = 0 ∧ bad = none ∧ er = .nilIface) ∨ (why ≠ 0 ∧ ∃ q, w.heap.size ≤ q ∧ bad = some q ∧ er = err q ∧ BadAt w' q why a)
/-- What a call of a reader leaves. -/
def RdPost (p : Nat) (s : ByteArray) (why : Int) (a : Nat) (res : Value) (w : World) (e : Ending) (w' : World) : Prop :=
  ∃ bad er, e = .returned (.tuple #[res, er]) ∧ InAt w' p s a bad ∧ (Grown w w' fun k => k = p) ∧ ErrAs w w' why a bad er

set_option maxRecDepth 8000 in
set_option maxHeartbeats 1000000 in
theorem inum_good (p : Nat) (s : ByteArray) (a : Nat) (most : Nat) (w : World) (h : InAt w p s a none) (hb : s.size ≤ 140737488355328) :
    Calls Try.prog 46 #[ptr p, .int .u64 (most : Int)] w (RdPost p s (fstM ((lst s).drop a) most).2.2 (a + (fstM ((lst s).drop a) most).2.1.toNat) (.int .u64 (fstM ((lst s).drop a) most).1) w) := by
  have HI := Keep.mk h
  have c0 : w.cell? ⟨p, 0, none⟩ = some (.string s) := by rw [h.blk.cell]; rfl
  have c1 : w.cell? ⟨p, 1, none⟩ = some (.int .i64 (a : Int)) := by rw [h.blk.cell]; rfl
  have c2 : w.cell? ⟨p, 2, none⟩ = some (.pointer none) := by rw [h.blk.cell]; rfl
  have hle := h.le
  have h1 : (a : Int) ≤ (s.size : Int) := by omega
  have h2 : (s.size : Int) ≤ 140737488355328 := by omega
  have hS := Keep.mk (fstM_shape ((lst s).drop a) most)
  have HF := fun wx => first_any (s.extract a s.size) wx (by rw [← lst_len, lst_from, List.length_drop, lst_len]; omega)
  rw [lst_from] at HF
  have hM : Keep (fstM ((lst s).drop a) most = if (fstG ((lst s).drop a) 0 0).2.2 = 0 ∧ (most : Int) < (fstG ((lst s).drop a) 0 0).1 then (0, 0, 22) else fstG ((lst s).drop a) 0 0) := ⟨rfl⟩
  have hlen : Keep (((lst s).drop a).length = s.size - a) := ⟨by rw [List.length_drop, lst_len]⟩
  generalize fstM ((lst s).drop a) most = R at *
  generalize fstG ((lst s).drop a) 0 0 = G at *
  obtain ⟨x, k, y⟩ := G
  simp only at HF hM
  have HF2 := Keep.mk HF
  clear HF h hb hle
  go_enter Try.func46, Try.ntmps46
  go_wp2_with fail
  go_quiet (first | (go_at_call 59; refine Calls.quiet_of_same (HF2.out _)))
  obtain ⟨w1, hw1⟩ : ∃ w1, Keep (w1 = w.drewN nq) := ⟨_, ⟨rfl⟩⟩
  rw [← hw1.out]
  have hI1 : InAt w1 p s a none := by rw [hw1.out]; exact ⟨HI.out.blk.drewN nq, HI.out.le⟩
  have hG1 : Grown w w1 (fun k => k = p) := by rw [hw1.out]; exact (Grown.refl w _).drewN nq
  have d1 : w1.cell? ⟨p, 1, none⟩ = some (.int .i64 (a : Int)) := by rw [hI1.blk.cell]; rfl
  have f1 := hI1.blk.frozen 1
  have HI1 := Keep.mk hI1
  have HG1 := Keep.mk hG1
  clear c0 c1 c2 hI1 hG1 hw1
  by_cases hy : y = 0
  · subst hy
    by_cases hx : (most : Int) < x
    · have hR : Keep (R = (0, 0, 22)) := ⟨by rw [hM.out, if_pos ⟨rfl, hx⟩]⟩
      go_wp2_with fail
      refine (ifail_any p s a 22 w1 HI1.out).mono ?_
      rintro e w2 ⟨rfl, h3, h4, h5⟩
      have HP := Keep.mk (And.intro h3 (And.intro h4 h5))
      clear h3 h4 h5
      go_wp2
      go_ret2
      rw [hR.out]
      exact ⟨some w1.heap.size, err w1.heap.size, rfl, HP.out.1, HG1.out.trans HP.out.2.2, .inr ⟨by decide, w1.heap.size, HG1.out.size, rfl, rfl, HP.out.2.1⟩⟩
    · have hR : Keep (R = (x, k, 0)) := ⟨by rw [hM.out, if_neg (fun h => hx h.2)]⟩
      rw [hR.out] at hS
      have hk0 : 0 ≤ k := hS.out.2.1
      have hk1 : k ≤ (s.size : Int) - a := by have := hS.out.2.2; simp only at this; rw [hlen.out] at this; omega
      obtain ⟨kn, rfl⟩ : ∃ kn : Nat, k = (kn : Int) := ⟨k.toNat, by omega⟩
      have HI2 : Keep (InAt (w1.setCell ⟨p, 1, none⟩ (.int .i64 ((a : Int) + (kn : Int)))) p s (a + kn) none) := ⟨⟨HI1.out.blk.set 1 _, by omega⟩⟩
      clear hS
      go_wp2
      go_ret2
      rw [hR.out]
      exact ⟨none, .nilIface, rfl, HI2.out, HG1.out.trans (Grown.setCell w1 p 1 _ fun _ => rfl), .inl ⟨rfl, rfl, rfl⟩⟩
  · have hR : Keep (R = (x, k, y)) := ⟨by rw [hM.out, if_neg (fun h => hy h.1)]⟩
    rw [hR.out] at hS
    have hxk := hS.out.1 hy
    simp only at hxk
    obtain ⟨rfl, rfl⟩ := hxk
    have hy1 : (y == 0) = false := by simpa using hy
    have hy2 : (y != 0) = true := by simpa using hy
    clear hS
    go_wp2_with fail
    refine (ifail_any p s a y w1 HI1.out).mono ?_
    rintro e w2 ⟨rfl, h3, h4, h5⟩
    have HP := Keep.mk (And.intro h3 (And.intro h4 h5))
    clear h3 h4 h5
    go_wp2
    go_ret2
    rw [hR.out]
    exact ⟨some w1.heap.size, err w1.heap.size, rfl, HP.out.1, HG1.out.trans HP.out.2.2, .inr ⟨hy, w1.heap.size, HG1.out.size, rfl, rfl, HP.out.2.1⟩⟩

theorem below_drewN (w : World) (n : Nat) : Below w.heap.size w (w.drewN n) := ⟨rfl, rfl, rfl, Nat.le_refl _, fun _ _ => rfl⟩
/-- A reader that has met an error: whatever is asked, that error, and nothing else. -/
def StuckPost (q : Nat) (res : Value) (w : World) (e : Ending) (w' : World) : Prop :=
  e = .returned (.tuple #[res, err q]) ∧ Below w.heap.size w w'
set_option maxRecDepth 8000 in
set_option maxHeartbeats 1000000 in
theorem inum_bad (p : Nat) (s : ByteArray) (a q : Nat) (v : Value) (w : World) (h : InAt w p s a (some q)) :
    Calls Try.prog 46 #[ptr p, v] w (StuckPost q (.int .u64 0) w) := by
  have c2 : w.cell? ⟨p, 2, none⟩ = some (ptr q) := by rw [h.blk.cell]; rfl
  clear h
  go_enter Try.func46, Try.ntmps46
  go_wp2_with fail
  go_quiet (fail)
  go_wp2
  go_ret2
  exact ⟨rfl, below_drewN _ _⟩
set_option maxRecDepth 8000 in
set_option maxHeartbeats 1000000 in
theorem inext_bad (p : Nat) (s : ByteArray) (a q : Nat) (v : Value) (w : World) (h : InAt w p s a (some q)) :
    Calls Try.prog 44 #[ptr p, v] w (StuckPost q (.string ByteArray.empty) w) := by
  have c2 : w.cell? ⟨p, 2, none⟩ = some (ptr q) := by rw [h.blk.cell]; rfl
  clear h
  go_enter Try.func44, Try.ntmps44
  go_wp2_with fail
  go_quiet (fail)
  go_wp2
  go_ret2
  exact ⟨rfl, below_drewN _ _⟩

/-- What is wrong with the next n bytes. -/
def nextW (D : List Int) (n : Int) : Int := if n < 0 then 1 else if (D.length : Int) < n then 20 else 0
/-- How many are read. -/
def nextN (D : List Int) (n : Int) : Nat := if nextW D n = 0 then n.toNat else 0
set_option maxRecDepth 8000 in
set_option maxHeartbeats 1000000 in
theorem inext_good (p : Nat) (s : ByteArray) (a : Nat) (n : Int) (w : World) (h : InAt w p s a none) (hb : s.size ≤ 140737488355328) (hn1 : -9223372036854775808 ≤ n) (hn2 : n ≤ 9223372036854775807) :
    Calls Try.prog 44 #[ptr p, .int .i64 n] w (RdPost p s (nextW ((lst s).drop a) n) (a + nextN ((lst s).drop a) n) (.string (s.extract a (a + nextN ((lst s).drop a) n))) w) := by
  have HI := Keep.mk h
  have c0 : w.cell? ⟨p, 0, none⟩ = some (.string s) := by rw [h.blk.cell]; rfl
  have c1 : w.cell? ⟨p, 1, none⟩ = some (.int .i64 (a : Int)) := by rw [h.blk.cell]; rfl
  have c2 : w.cell? ⟨p, 2, none⟩ = some (.pointer none) := by rw [h.blk.cell]; rfl
  have hle := h.le
  have h1 : (a : Int) ≤ (s.size : Int) := by omega
  have h2 : (s.size : Int) ≤ 140737488355328 := by omega
  have hlen : ((lst s).drop a).length = s.size - a := by rw [List.length_drop, lst_len]
  have f1 := h.blk.frozen 1
  have hse : s.extract a a = ByteArray.empty := by
    rw [← nums_lst (s.extract a a), lst_extract]; simp [strOfNums]; rfl
  by_cases hneg : n < 0
  · have hW : nextW ((lst s).drop a) n = 1 := by unfold nextW; rw [if_pos hneg]
    have hN : nextN ((lst s).drop a) n = 0 := by unfold nextN; rw [hW]; rfl
    rw [hW, hN, Nat.add_zero, hse]
    clear hW hN hse hlen h hn1 hn2 hb hle
    go_enter Try.func44, Try.ntmps44
    go_wp2_with fail
    refine (ifail_any p s a 1 w HI.out).mono ?_
    rintro e w2 ⟨rfl, h3, h4, h5⟩
    have HP := Keep.mk (And.intro h3 (And.intro h4 h5))
    clear h3 h4 h5
    go_wp2
    go_ret2
    exact ⟨some w.heap.size, err w.heap.size, rfl, HP.out.1, HP.out.2.2, .inr ⟨by decide, w.heap.size, Nat.le_refl _, rfl, rfl, HP.out.2.1⟩⟩
  · by_cases hbig : (s.size : Int) - a < n
    · have hW : nextW ((lst s).drop a) n = 20 := by unfold nextW; rw [if_neg hneg, if_pos (by rw [hlen]; omega)]
      have hN : nextN ((lst s).drop a) n = 0 := by unfold nextN; rw [hW]; rfl
      rw [hW, hN, Nat.add_zero, hse]
      have HSz := Keep.mk hb
      clear hW hN hse hlen h hn1 hn2 hb hle
      go_enter Try.func44, Try.ntmps44
      go_wp2_with fail
      refine (ileft_any p s a none w HI.out HSz.out).mono ?_
      rintro e w1 ⟨rfl, q, hw1⟩
      have HI1 : Keep (InAt w1 p s a none) := ⟨by rw [hw1]; exact ⟨HI.out.blk.drewN q, HI.out.le⟩⟩
      have HG1 : Keep (Grown w w1 fun k => k = p) := ⟨by rw [hw1]; exact (Grown.refl w _).drewN q⟩
      clear hw1 c0 c1 c2
      go_wp2_with fail
      refine (ifail_any p s a 20 w1 HI1.out).mono ?_
      rintro e w2 ⟨rfl, h3, h4, h5⟩
      have HP := Keep.mk (And.intro h3 (And.intro h4 h5))
      clear h3 h4 h5
      go_wp2
      go_ret2
      exact ⟨some w1.heap.size, err w1.heap.size, rfl, HP.out.1, HG1.out.trans HP.out.2.2, .inr ⟨by decide, w1.heap.size, HG1.out.size, rfl, rfl, HP.out.2.1⟩⟩
    · obtain ⟨m, rfl⟩ : ∃ m : Nat, n = (m : Int) := ⟨n.toNat, by omega⟩
      have hW : nextW ((lst s).drop a) m = 0 := by unfold nextW; rw [if_neg hneg, if_neg (by rw [hlen]; omega)]
      have hN : nextN ((lst s).drop a) m = m := by unfold nextN; rw [hW]; simp
      rw [hW, hN]
      have HSz := Keep.mk hb
      have hm1 : (a : Int) + (m : Int) ≤ (s.size : Int) := by omega
      clear hW hN hse hlen h hn1 hn2 hb hle
      go_enter Try.func44, Try.ntmps44
      go_wp2_with fail
      refine (ileft_any p s a none w HI.out HSz.out).mono ?_
      rintro e w1 ⟨rfl, q, hw1⟩
      have hI1 : InAt w1 p s a none := by rw [hw1]; exact ⟨HI.out.blk.drewN q, HI.out.le⟩
      have HG1 : Keep (Grown w w1 fun k => k = p) := ⟨by rw [hw1]; exact (Grown.refl w _).drewN q⟩
      have c0 : w1.cell? ⟨p, 0, none⟩ = some (.string s) := by rw [hI1.blk.cell]; rfl
      have c1 : w1.cell? ⟨p, 1, none⟩ = some (.int .i64 (a : Int)) := by rw [hI1.blk.cell]; rfl
      have HI1 := Keep.mk hI1
      clear hw1 c2 f1 hI1
      go_wp2_with fail
      go_quiet (fail)
      obtain ⟨w2, hw2⟩ : ∃ w2, Keep (w2 = w1.drewN nq) := ⟨_, ⟨rfl⟩⟩
      rw [← hw2.out]
      have hI2 : InAt w2 p s a none := by rw [hw2.out]; exact ⟨HI1.out.blk.drewN nq, HI1.out.le⟩
      have hG2 : Grown w w2 (fun k => k = p) := by rw [hw2.out]; exact HG1.out.drewN nq
      have d1 : w2.cell? ⟨p, 1, none⟩ = some (.int .i64 (a : Int)) := by rw [hI2.blk.cell]; rfl
      have f1 := hI2.blk.frozen 1
      have HI2 : Keep (InAt (w2.setCell ⟨p, 1, none⟩ (.int .i64 ((a : Int) + (m : Int)))) p s (a + m) none) := ⟨⟨hI2.blk.set 1 _, by omega⟩⟩
      have HG2 := Keep.mk hG2
      clear c0 c1 hI2 hG2 hw2
      go_wp2
      go_ret2
      exact ⟨none, .nilIface, rfl, HI2.out, HG2.out.trans (Grown.setCell w2 p 1 _ fun _ => rfl), .inl ⟨rfl, rfl, rfl⟩⟩
end Go.Proofs.Ytbkboebinhafhaa
