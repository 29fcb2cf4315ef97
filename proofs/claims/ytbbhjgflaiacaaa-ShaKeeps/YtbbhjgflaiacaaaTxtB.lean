import Derived.Test.YtbbhjgflaiacaaaTxtA
namespace Go.Proofs.Ytbbhjgflaiacaaa
open Go.RowKit

def rok (x : Nat → Int) : Nat → Bool
  | 0 => true
  | t + 1 => rok x t && decide (0 ≤ hexv (x t))
def rpar (x : Nat → Int) : Nat → (Nat → Int)
  | 0 => fun _ => 0
  | t + 1 => upd (rpar x t) (t / 2) ((16 * rpar x t (t / 2) + hexv (x t)) % 256)
theorem rok_bad (x : Nat → Int) (t n : Nat) (h : t < n) (hb : rok x (t + 1) = false) : rok x n = false := by
  obtain ⟨k, rfl⟩ : ∃ k, n = t + 1 + k := ⟨n - t - 1, by omega⟩
  clear h
  induction k with
  | zero => exact hb
  | succ k ih => rw [← Nat.add_assoc]; simp only [rok, ih, Bool.false_and]
theorem rok_ok (x : Nat → Int) (t : Nat) : rok x (2 * t) = okUp x t := by
  induction t with
  | zero => rfl
  | succ t ih =>
    rw [show 2 * (t + 1) = 2 * t + 1 + 1 by omega]
    simp only [rok, okUp, ih, Bool.and_assoc]
theorem or16 (a b : Int) (ha : 0 ≤ a) (ha' : a ≤ 15) (hb : 0 ≤ b) (hb' : b ≤ 15) : bits .or .i64 (a * 16) b % 256 = a * 16 + b := by
  have : ∀ (a b : Fin 16), bits .or .i64 ((a.val : Int) * 16) (b.val : Int) % 256 = (a.val : Int) * 16 + b.val := by decide +kernel
  have h := this ⟨a.toNat, by omega⟩ ⟨b.toNat, by omega⟩
  simp only [Int.toNat_of_nonneg ha, Int.toNat_of_nonneg hb] at h
  exact h
theorem rok_lt (x : Nat → Int) (n : Nat) (h : rok x n = true) : ∀ t, t < n → 0 ≤ hexv (x t) := by
  induction n with
  | zero => intro t ht; omega
  | succ n ih =>
    simp only [rok, Bool.and_eq_true, decide_eq_true_eq] at h
    intro t ht
    by_cases e : t = n
    · subst e; exact h.2
    · exact ih h.1 t (by omega)
theorem rpar_par (x : Nat → Int) (k : Nat) (h : rok x (2 * k) = true) : ∀ i, rpar x (2 * k) i = parUp x k i ∧ (k ≤ i → parUp x k i = 0) := by
  induction k with
  | zero => intro i; exact ⟨rfl, fun _ => rfl⟩
  | succ k ih =>
    have hb := rok_lt x _ h
    rw [show 2 * (k + 1) = 2 * k + 1 + 1 by omega] at h ⊢
    have h1 : rok x (2 * k) = true := by simp only [rok, Bool.and_eq_true] at h; exact h.1.1
    have ih := ih h1
    have a1 := hb (2 * k) (by omega)
    have a2 := hb (2 * k + 1) (by omega)
    have b1 := hexv_le (x (2 * k))
    have b2 := hexv_le (x (2 * k + 1))
    intro i
    have e1 : 2 * k / 2 = k := by omega
    have e2 : (2 * k + 1) / 2 = k := by omega
    simp only [rpar, parUp, e1, e2]
    have z : rpar x (2 * k) k = 0 := by rw [(ih k).1]; exact (ih k).2 (Nat.le_refl _)
    by_cases hi : i = k
    · subst hi
      simp only [upd, if_pos, z]
      rw [or16 _ _ a1 b1 a2 b2]
      exact ⟨by omega, fun h => by omega⟩
    · simp only [upd, if_neg hi]
      exact ⟨(ih i).1, fun h => (ih i).2 (by omega)⟩

set_option maxHeartbeats 1000000 in
theorem refParse_short (s : ByteArray) (w : World) (hs : s.size ≠ 64) :
    Calls Try.prog 30 #[.string s] w fun e w' => e = .returned (.tuple #[.agg (bytesA 32 fun _ => 0), .int .i64 10]) ∧ Below w.heap.size w w' := by
  have hb : ((s.size : Int) != 64) = true := by rw [bne_iff_ne]; omega
  go_enter Try.func30, Try.ntmps30
  go_wp2_with (first | (refine wpList_new rfl 23 rfl _ Try.new23 ?_) | (refine wpList_bld rfl 23 _ rfl (bytesA 32 fun _ => 0) (by kernel_rfl) ?_; refine wpList_store_row rfl 23 (.tmp 2) (.tmp 11) rfl w.heap.size (bytesA 32 fun _ => 0) rfl rfl 23 (bytesA 32 fun _ => 0) (Blk.new _ _ _) (Try.size23B _) (bytesA_sizes _ _ _) (bytesA_one _ _) ?_))
  exact bodyPost_ret (v := .tuple #[.agg (bytesA 32 fun _ => 0), .int .i64 10]) (results_cell_row2 Try.results30 _ _ w.heap.size 23 _ (0, 0) _ _ rfl rfl ((Blk.new _ _ _).setRow _) Try.underlying23 rfl (Try.size23B _)) rfl ⟨rfl, below_setRow (below_new _ _) (Nat.le_refl _) _⟩

set_option maxHeartbeats 1000000 in
theorem refParse_any (s : ByteArray) (w : World) (hs : s.size = 64) :
    Calls Try.prog 30 #[.string s] w fun e w' => e = .returned (.tuple #[.agg (bytesA 32 (parF s)), .int .i64 (parE s)]) ∧ Below w.heap.size w w' := by
  have hb : ((s.size : Int) != 64) = false := by rw [bne_eq_false_iff_eq]; omega
  have HH : Keep (Blk ((w.alloc (.cells (bytesA 32 fun _ => 0) 23)).alloc (.cells (bytesA 32 fun _ => 0) 23)) (w.heap.size + 1) 23 (bytesA 32 fun _ => 0)) := ⟨by
    have h := Blk.new (w.alloc (.cells (bytesA 32 fun _ => 0) 23)) 23 (bytesA 32 fun _ => 0)
    simp only [World.size_alloc] at h
    exact h⟩
  go_enter Try.func30, Try.ntmps30
  go_wp2_with (first | (refine wpList_new rfl 23 rfl _ Try.new23 ?_) | (refine wpList_bld rfl 23 _ rfl (bytesA 32 fun _ => 0) (by kernel_rfl) ?_; refine wpList_new rfl 23 rfl _ Try.new23 ?_; refine wpList_store_row rfl 23 (.tmp 4) (.tmp 12) rfl (w.heap.size + 1) (bytesA 32 fun _ => 0) (by simp [Act.put, Act.eval]) rfl 23 (bytesA 32 fun _ => 0) HH.out (Try.size23B _) (bytesA_sizes _ _ _) (bytesA_one _ _) ?_))
  have hR := ((Blk.new w 23 (bytesA 32 fun _ => 0)).alloc (.cells (bytesA 32 fun _ => 0) 23)).setRow_ne (b' := w.heap.size + 1) (by omega) (bytesA 32 fun _ => 0)
  have hH := HH.out.setRow (bytesA 32 fun _ => 0)
  have hB : Below w.heap.size w (((w.alloc (.cells (bytesA 32 fun _ => 0) 23)).alloc (.cells (bytesA 32 fun _ => 0) 23)).setRow (w.heap.size + 1) (bytesA 32 fun _ => 0)) :=
    below_setRow (((Below.refl _ _).alloc (Nat.le_refl _) _).alloc (by simp) _) (by omega) _
  generalize (((w.alloc (.cells (bytesA 32 fun _ => 0) 23)).alloc (.cells (bytesA 32 fun _ => 0) 23)).setRow (w.heap.size + 1) (bytesA 32 fun _ => 0)) = w0 at *
  obtain ⟨x, hx⟩ : ∃ x, Keep (x = byteAt s) := ⟨_, ⟨rfl⟩⟩
  clear HH
  go_wp2
  go_loopw [5] (fun i wr => ∃ t : Nat, t ≤ 64 ∧ i = .int .i64 t ∧ Hid (rok x t = true) ∧ Blk wr w.heap.size 23 (bytesA 32 fun _ => 0) ∧ Blk wr (w.heap.size + 1) 23 (bytesA 32 (rpar x t)) ∧ Below w.heap.size w wr) (fun i _ => 64 - (intOf i).toNat)
  case atStart => exact ⟨0, by omega, rfl, rfl, hR, hH, hB⟩
  case round =>
    clear hR hH hB
    obtain ⟨t, ht, rfl, hok, hR, hH, hB⟩ := hrel
    by_cases hlt : t < 64
    · have hlt' : (t : Int) < 64 := by omega
      have l1 : t < s.size := by omega
      have x1 : Keep (x t = (s[t].toNat : Int)) := ⟨by rw [hx.out, byteAt_get s _ l1]⟩
      have hb8 : s[t].toNat < 256 := UInt8.toNat_lt _
      have b1 := hexv_le (s[t].toNat : Int)
      by_cases c1 : hexv (s[t].toNat : Int) < 0
      · have c1' : decide (0 ≤ hexv (s[t].toNat : Int)) = false := decide_eq_false (by omega)
        have hbad : Keep (okUp (byteAt s) 32 = false) := ⟨by
          rw [← hx.out, ← rok_ok]; exact rok_bad x t 64 (by omega) (by simp only [rok, x1.out]; rw [decide_eq_false (show ¬ 0 ≤ hexv (s[t].toNat : Int) by omega)]; simp)⟩
        go_wp2_with (first | (go_at_call 46; refine (half_any _ hb8 _).mono ?_; rintro e w' ⟨rfl, rfl⟩; rw [if_neg (by omega), c1']) | (refine wpList_bld rfl 23 _ rfl (bytesA 32 fun _ => 0) (by kernel_rfl) ?_; refine wpList_store_row rfl 23 (.tmp 2) (.tmp 26) rfl w.heap.size (bytesA 32 fun _ => 0) rfl rfl 23 (bytesA 32 fun _ => 0) hR (Try.size23B _) (bytesA_sizes _ _ _) (bytesA_one _ _) ?_))
        exact bodyPost_ret (v := .tuple #[.agg (bytesA 32 fun _ => 0), .int .i64 10]) (results_cell_row2 Try.results30 _ _ w.heap.size 23 _ (0, 0) _ _ rfl rfl (hR.setRow _) Try.underlying23 rfl (Try.size23B _)) rfl ⟨by unfold parF parE; rw [hbad.out]; rfl, below_setRow hB (Nat.le_refl _) _⟩
      · have c1p : 0 ≤ hexv (s[t].toNat : Int) := by omega
        have c1' : decide (0 ≤ hexv (s[t].toNat : Int)) = true := decide_eq_true c1p
        obtain ⟨u, hu⟩ : ∃ u, Keep (t / 2 = u) := ⟨_, ⟨rfl⟩⟩
        have hul : u < 32 := by have := hu.out; omega
        obtain ⟨y, hy⟩ : ∃ y, Keep (rpar x t u = y) := ⟨_, ⟨rfl⟩⟩
        have cc : wr.cell? ⟨w.heap.size + 1, u, none⟩ = some (.int .u8 y) := by rw [hH.cell, bytesA_get _ _ _ hul, hy.out]
        have cf : wr.frozen? ⟨w.heap.size + 1, u, none⟩ = false := hH.frozen u
        have q1 : (t : Int) / 2 = (u : Int) := by have := hu.out; omega
        have q2 : (u : Int) < 32 := by omega
        have e1 : IntKind.u8.wrap (16 * y) = 16 * y % 256 := by rw [IntKind.wrap_u8]
        have e2 : IntKind.u8.wrap (16 * y % 256 + hexv (s[t].toNat : Int)) = (16 * y % 256 + hexv (s[t].toNat : Int)) % 256 := by rw [IntKind.wrap_u8]
        go_wp2_with (go_at_call 46; refine (half_any _ hb8 _).mono ?_; rintro e w' ⟨rfl, rfl⟩; rw [if_pos c1p, c1'])
        refine ⟨⟨t + 1, by omega, by go_num, ?_, hR.set_ne (by omega) _, ?_, hB.setCell (by show w.heap.size ≤ w.heap.size + 1; omega) _⟩, by simp [intOf]; omega⟩
        · show rok x (t + 1) = true
          simp only [rok, x1.out]
          rw [hok.out, c1']; rfl
        · have h := hH.set u (.int .u8 ((16 * y + hexv (s[t].toNat : Int)) % 256))
          rw [bytesA_set] at h
          simp only [rpar, hu.out, hy.out, x1.out]
          exact h
    · obtain rfl : t = 64 := by omega
      clear hlt ht
      have hok2 : okUp x 32 = true := by rw [← rok_ok]; exact hok.out
      have hF : Keep (bytesA 32 (parF s) = bytesA 32 (rpar x 64)) := ⟨by
        unfold parF; rw [← hx.out, hok2]
        exact bytesA_congr fun i _ => ((rpar_par x 32 hok.out i).1).symm⟩
      have hE : Keep (parE s = 0) := ⟨by unfold parE; rw [← hx.out, hok2]; rfl⟩
      obtain ⟨c, hc⟩ : ∃ c, Keep (c = rpar x 64) := ⟨_, ⟨rfl⟩⟩
      rw [← hc.out] at hH hF
      go_wp2_with (refine wpList_load_row rfl 23 (.tmp 4) rfl (w.heap.size + 1) rfl 23 (bytesA 32 c) (0, 0) (.array 32 5) hH Try.underlying23 rfl (Try.size23B _) ?_; refine wpList_store_row rfl 23 (.tmp 2) (.tmp 37) rfl w.heap.size (bytesA 32 c) rfl rfl 23 (bytesA 32 fun _ => 0) hR (Try.size23B _) (bytesA_sizes _ _ _) (bytesA_one _ _) ?_)
      exact bodyPost_ret (v := .tuple #[.agg (bytesA 32 c), .int .i64 0]) (results_cell_row2 Try.results30 _ _ w.heap.size 23 _ (0, 0) _ _ rfl rfl (hR.setRow _) Try.underlying23 rfl (Try.size23B _)) rfl ⟨by rw [hF.out, hE.out], below_setRow hB (Nat.le_refl _) _⟩
end Go.Proofs.Ytbbhjgflaiacaaa
