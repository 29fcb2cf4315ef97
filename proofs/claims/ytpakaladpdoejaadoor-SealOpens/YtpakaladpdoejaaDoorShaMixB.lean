import Derived.Test.YtpakaladpdoejaaDoorShaMixA
namespace Go.Proofs.YtpakaladpdoejaaDoor
open Go.RowKit

structure R8 where
  a : Int
  b : Int
  c : Int
  d : Int
  e : Int
  f : Int
  g : Int
  h : Int

def big1 (x : Int) : Int := bits .xor .u32 (bits .xor .u32 (rot x 6) (rot x 11)) (rot x 25)
def big0 (x : Int) : Int := bits .xor .u32 (bits .xor .u32 (rot x 2) (rot x 13)) (rot x 22)
def chF (e f g : Int) : Int := bits .xor .u32 (bits .and .u32 e f) (bits .and .u32 (bits .xor .u32 4294967295 e) g)
def majF (a b c : Int) : Int := bits .xor .u32 (bits .xor .u32 (bits .and .u32 a b) (bits .and .u32 a c)) (bits .and .u32 b c)
def uF (k w : Int) (r : R8) : Int := (r.h + big1 r.e + chF r.e r.f r.g + k + w) % 4294967296
def vF (r : R8) : Int := (big0 r.a + majF r.a r.b r.c) % 4294967296
def stepF (k w : Int) (r : R8) : R8 := ⟨(uF k w r + vF r) % 4294967296, r.a, r.b, r.c, (r.d + uF k w r) % 4294967296, r.e, r.f, r.g⟩
def runF (kk ww : Nat → Int) (r : R8) : Nat → R8
  | 0 => r
  | t + 1 => stepF (kk t) (ww t) (runF kk ww r t)
def r8 (s : Nat → Int) : R8 := ⟨s 0, s 1, s 2, s 3, s 4, s 5, s 6, s 7⟩
def outF (s : Nat → Int) (r : R8) (i : Nat) : Int :=
  [(s 0 + r.a) % 4294967296, (s 1 + r.b) % 4294967296, (s 2 + r.c) % 4294967296, (s 3 + r.d) % 4294967296, (s 4 + r.e) % 4294967296, (s 5 + r.f) % 4294967296, (s 6 + r.g) % 4294967296, (s 7 + r.h) % 4294967296].getD i 0
/-- What the words s become by a piece. -/
def mixF (s b : Nat → Int) : Nat → Int := outF s (runF roundsF (sched b 64) (r8 s) 64)
theorem u32_all : (if IntKind.u32.signed = true then -1 else IntKind.u32.max) = 4294967295 := by decide

theorem blk_drewN {w : World} {b : Nat} {T : TypeId} {cs : Array Value} (h : Blk w b T cs) (n : Nat) : Blk (w.drewN n) b T cs := by
  induction n with
  | zero => exact h
  | succ n ih => exact ih

set_option maxRecDepth 8000 in
set_option maxHeartbeats 1000000 in
theorem mix_any (s b : Nat → Int) (w : World) :
    Calls Tryd.prog 42 #[.agg (wordsA 8 s), .agg (bytesA 64 b)] w fun e w' => e = .returned (.agg (wordsA 8 (mixF s b))) ∧ Below w.heap.size w w' := by
  go_enter Tryd.func42, Tryd.ntmps42
  go_wp2_with (first | (refine wpList_boxA rfl 73 (.tmp 0) rfl (wordsA 8 s) rfl ?_; refine wpList_boxA rfl 49 (.tmp 1) rfl (bytesA 64 b) rfl ?_) | (refine wpList_new rfl 73 rfl _ Tryd.new73 ?_))
  have hB : Below w.heap.size w (((w.alloc (.cells (wordsA 8 s) 73)).alloc (.cells (bytesA 64 b) 49)).alloc (.cells (wordsA 8 fun _ => 0) 73)) :=
    (((Below.refl _ _).alloc (Nat.le_refl _) _).alloc (by simp) _).alloc (by simp; omega) _
  have hJ : MixJ w.heap.size w s b (((w.alloc (.cells (wordsA 8 s) 73)).alloc (.cells (bytesA 64 b) 49)).alloc (.cells (wordsA 8 fun _ => 0) 73)).drew false false false false false false false undef undef undef undef undef :=
    { below := hB.drew, hN := by simp [World.drew],
      k0 := (((Blk.new w 73 (wordsA 8 s)).alloc _).alloc _).drew
      k1 := by simpa using ((Blk.new (w.alloc (.cells (wordsA 8 s) 73)) 49 (bytesA 64 b)).alloc (.cells (wordsA 8 fun _ => 0) 73)).drew
      k2 := by simpa using (Blk.new ((w.alloc (.cells (wordsA 8 s) 73)).alloc (.cells (bytesA 64 b) 49)) 73 (wordsA 8 fun _ => 0)).drew
      e18 := fun h => by simp at h, e19 := fun h => by simp at h, e20 := fun h => by simp at h, e5 := fun h => by simp at h, e6 := fun h => by simp at h, ne := fun h => by simp at h, w5 := fun h => by simp at h, w6 := fun h => by simp at h }
  clear hB
  generalize (((w.alloc (.cells (wordsA 8 s) 73)).alloc (.cells (bytesA 64 b) 49)).alloc (.cells (wordsA 8 fun _ => 0) 73)) = w0 at *
  simp only [Act.put, List.setIfInBounds_toArray, List.set_cons_succ, List.set_cons_zero, World.size_alloc]
  refine mix_region1 _ w.heap.size w w0 s b _ (by simp) rfl rfl hJ _ ?_
  intro g k v18 v19 v20 wc hg hk hgk hG hK hS hR hB
  simp only [fr5, Act.put, List.setIfInBounds_toArray, List.set_cons_succ, List.set_cons_zero]
  clear hJ
  have s0 : wc.cell? ⟨w.heap.size, 0, none⟩ = some (.int .u32 (s 0)) := by rw [hS.cell, wordsA_get _ _ _ (by omega)]
  have s1 : wc.cell? ⟨w.heap.size, 1, none⟩ = some (.int .u32 (s 1)) := by rw [hS.cell, wordsA_get _ _ _ (by omega)]
  have s2 : wc.cell? ⟨w.heap.size, 2, none⟩ = some (.int .u32 (s 2)) := by rw [hS.cell, wordsA_get _ _ _ (by omega)]
  have s3 : wc.cell? ⟨w.heap.size, 3, none⟩ = some (.int .u32 (s 3)) := by rw [hS.cell, wordsA_get _ _ _ (by omega)]
  have s4 : wc.cell? ⟨w.heap.size, 4, none⟩ = some (.int .u32 (s 4)) := by rw [hS.cell, wordsA_get _ _ _ (by omega)]
  have s5 : wc.cell? ⟨w.heap.size, 5, none⟩ = some (.int .u32 (s 5)) := by rw [hS.cell, wordsA_get _ _ _ (by omega)]
  have s6 : wc.cell? ⟨w.heap.size, 6, none⟩ = some (.int .u32 (s 6)) := by rw [hS.cell, wordsA_get _ _ _ (by omega)]
  have s7 : wc.cell? ⟨w.heap.size, 7, none⟩ = some (.int .u32 (s 7)) := by rw [hS.cell, wordsA_get _ _ _ (by omega)]
  go_wp2
  go_quiet (fail)
  go_wp2
  clear s0 s1 s2 s3 s4 s5 s6 s7
  have hG0 := blk_drewN hG nq
  have hK0 := blk_drewN hK nq
  have hS0 := blk_drewN hS nq
  have hR0 := blk_drewN hR nq
  have hB0 : Below w.heap.size w (wc.drewN nq) := below_drewN hB nq
  go_loopw [7, 8, 9, 10, 11, 12, 13, 14, 37] (fun xa xb xc xd xe xf xg xh i wr => ∃ t : Nat, t ≤ 64 ∧ i = .int .i64 t ∧
      xa = .int .u32 (runF roundsF (sched b 64) (r8 s) t).a ∧ xb = .int .u32 (runF roundsF (sched b 64) (r8 s) t).b ∧ xc = .int .u32 (runF roundsF (sched b 64) (r8 s) t).c ∧ xd = .int .u32 (runF roundsF (sched b 64) (r8 s) t).d ∧
      xe = .int .u32 (runF roundsF (sched b 64) (r8 s) t).e ∧ xf = .int .u32 (runF roundsF (sched b 64) (r8 s) t).f ∧ xg = .int .u32 (runF roundsF (sched b 64) (r8 s) t).g ∧ xh = .int .u32 (runF roundsF (sched b 64) (r8 s) t).h ∧
      Blk wr g 75 (wordsA 64 roundsF) ∧ Blk wr k 75 (wordsA 64 (sched b 64)) ∧ Blk wr w.heap.size 73 (wordsA 8 s) ∧ Blk wr (w.heap.size + 1 + 1) 73 (wordsA 8 fun _ => 0) ∧ Below w.heap.size w wr) (fun _ _ _ _ _ _ _ _ i _ => 64 - (intOf i).toNat)
  case atStart => exact ⟨0, by omega, rfl, rfl, rfl, rfl, rfl, rfl, rfl, rfl, rfl, hG0, hK0, hS0, hR0, hB0⟩
  case round =>
    clear hG0 hK0 hS0 hR0 hB0 hG hK hS hR hB
    obtain ⟨t, ht, rfl, rfl, rfl, rfl, rfl, rfl, rfl, rfl, rfl, hG, hK, hS, hR, hB⟩ := hrel
    obtain ⟨r, hr⟩ : ∃ r, Hid (r = runF roundsF (sched b 64) (r8 s) t) := ⟨_, rfl⟩
    rw [← hr.out]
    obtain ⟨ra, rb, rc, rd, re, rf, rg, rh⟩ := r
    dsimp only
    by_cases hlt : t < 64
    · have eg : wr.cell? ⟨g, t, none⟩ = some (.int .u32 (roundsF t)) := by rw [hG.cell, wordsA_get _ _ _ (by omega)]
      have ek : wr.cell? ⟨k, t, none⟩ = some (.int .u32 (sched b 64 t)) := by rw [hK.cell, wordsA_get _ _ _ (by omega)]
      obtain ⟨kt, hkt⟩ : ∃ kt, Hid (kt = roundsF t) := ⟨_, rfl⟩
      obtain ⟨wt, hwt⟩ : ∃ wt, Hid (wt = sched b 64 t) := ⟨_, rfl⟩
      rw [← hkt.out] at eg
      rw [← hwt.out] at ek
      go_wp2
      go_quiet ((go_at_call 49; exact Calls.quiet_of_same (turn_any _ _ _ (by omega) (by omega))))
      go_wp2_with (go_at_call 49; refine (turn_any _ _ _ (by omega) (by omega)).mono ?_; rintro e w' ⟨rfl, rfl⟩)
      go_roundw
      case rel =>
        have hn : runF roundsF (sched b 64) (r8 s) (t + 1) = stepF kt wt ⟨ra, rb, rc, rd, re, rf, rg, rh⟩ := by rw [hkt.out, hwt.out, hr.out]; rfl
        simp only [u32_all]
        exact ⟨t + 1, by omega, by go_num, by rw [hn]; rfl, by rw [hn]; rfl, by rw [hn]; rfl, by rw [hn]; rfl, by rw [hn]; rfl, by rw [hn]; rfl, by rw [hn]; rfl, by rw [hn]; rfl, blk_drewN hG _, blk_drewN hK _, blk_drewN hS _, blk_drewN hR _, below_drewN hB _⟩
      case measure => simp [intOf]; omega
    · obtain rfl : t = 64 := by omega
      clear hlt ht
      have s0 : wr.cell? ⟨w.heap.size, 0, none⟩ = some (.int .u32 (s 0)) := by rw [hS.cell, wordsA_get _ _ _ (by omega)]
      have s1 : wr.cell? ⟨w.heap.size, 1, none⟩ = some (.int .u32 (s 1)) := by rw [hS.cell, wordsA_get _ _ _ (by omega)]
      have s2 : wr.cell? ⟨w.heap.size, 2, none⟩ = some (.int .u32 (s 2)) := by rw [hS.cell, wordsA_get _ _ _ (by omega)]
      have s3 : wr.cell? ⟨w.heap.size, 3, none⟩ = some (.int .u32 (s 3)) := by rw [hS.cell, wordsA_get _ _ _ (by omega)]
      have s4 : wr.cell? ⟨w.heap.size, 4, none⟩ = some (.int .u32 (s 4)) := by rw [hS.cell, wordsA_get _ _ _ (by omega)]
      have s5 : wr.cell? ⟨w.heap.size, 5, none⟩ = some (.int .u32 (s 5)) := by rw [hS.cell, wordsA_get _ _ _ (by omega)]
      have s6 : wr.cell? ⟨w.heap.size, 6, none⟩ = some (.int .u32 (s 6)) := by rw [hS.cell, wordsA_get _ _ _ (by omega)]
      have s7 : wr.cell? ⟨w.heap.size, 7, none⟩ = some (.int .u32 (s 7)) := by rw [hS.cell, wordsA_get _ _ _ (by omega)]
      have hfin : Hid (mixF s b = outF s ⟨ra, rb, rc, rd, re, rf, rg, rh⟩) := by show mixF s b = _; rw [hr.out]; rfl
      clear hr
      go_wp2_with (refine wpList_bld rfl 73 _ rfl (wordsA 8 (outF s ⟨ra, rb, rc, rd, re, rf, rg, rh⟩)) (by kernel_rfl) ?_; refine wpList_store_row rfl 73 (.tmp 4) (.tmp 132) rfl (w.heap.size + 1 + 1) (wordsA 8 (outF s ⟨ra, rb, rc, rd, re, rf, rg, rh⟩)) rfl rfl 73 (wordsA 8 fun _ => 0) hR (Tryd.size73W _) (wordsA_sizes _ _ _) (wordsA_one _ _) ?_)
      exact bodyPost_ret (v := .agg (wordsA 8 (outF s ⟨ra, rb, rc, rd, re, rf, rg, rh⟩))) (results_cell_row Tryd.results42 _ _ (w.heap.size + 1 + 1) 73 _ (0, 0) _ rfl (hR.setRow _) Tryd.underlying73 rfl (Tryd.size73W _)) rfl ⟨by rw [hfin.out], below_setRow hB (by omega) _⟩
end Go.Proofs.YtpakaladpdoejaaDoor
