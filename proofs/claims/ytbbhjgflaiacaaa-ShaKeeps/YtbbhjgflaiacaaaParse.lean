import Derived.Test.YtbbhjgflaiacaaaOf
import Derived.Lib.Bytealg
namespace Go.Proofs.Ytbbhjgflaiacaaa
open Go.RowKit

def digitsS : ByteArray := { data := #[48, 49, 50, 51, 52, 53, 54, 55, 56, 57, 97, 98, 99, 100, 101, 102] }
/-- The number of a digit, -1 where it is none. -/
def hexv (c : Int) : Int := Lib.indexByte digitsS.data.toList c.toNat.toUInt8

theorem run69 (c : Int) (w : World) : (callFunc 68 #[.string digitsS, .int .u8 c]).run Try.prog w = .ok (.value (.int .i64 (hexv c))) w := by
  rw [run_callFunc_indexByte (P := Try.prog) (f := 68) (fn := Try.f68) Try.func68 (by kernel_rfl) (by kernel_rfl) (by kernel_rfl) (by kernel_rfl), Lib.run_indexByteString]
  rfl

set_option maxHeartbeats 400000 in
theorem ix_any (c : Int) (w : World) :
    Calls Try.prog 45 #[.string digitsS, .int .u8 c] w fun e w' => e = .returned (.int .i64 (hexv c)) ∧ w' = w := by
  have h := run69 c
  go_enter Try.func45, Try.ntmps45
  go_wp2
  go_ret
  exact ⟨rfl, rfl⟩

theorem hexv_ge (c : Int) : -1 ≤ hexv c := Lib.indexByte_ge _ _
theorem hexv_le (c : Int) : hexv c ≤ 15 := by
  unfold hexv
  have : ∀ x : UInt8, Lib.indexByte digitsS.data.toList x ≤ 15 := by
    intro x
    have : ∀ k : Fin 256, Lib.indexByte digitsS.data.toList (UInt8.ofNat k.val) ≤ 15 := by decide +kernel
    have h := this ⟨x.toNat, x.toNat_lt⟩
    simpa using h
  exact this _

/-- Is every one of the first 2 t signs a digit? -/
def okUp (x : Nat → Int) : Nat → Bool
  | 0 => true
  | t + 1 => okUp x t && (decide (0 ≤ hexv (x (2 * t))) && decide (0 ≤ hexv (x (2 * t + 1))))
/-- The bytes of the first 2 t digits. -/
def parUp (x : Nat → Int) : Nat → (Nat → Int)
  | 0 => fun _ => 0
  | t + 1 => upd (parUp x t) t (bits .or .i64 (hexv (x (2 * t)) * 16) (hexv (x (2 * t + 1))) % 256)

def byteAt (s : ByteArray) (i : Nat) : Int := (s.data.toList.getD i 0).toNat
theorem byteAt_get (s : ByteArray) (i : Nat) (h : i < s.size) : byteAt s i = (s[i].toNat : Int) := by
  have h' : i < s.data.toList.length := by simpa using h
  unfold byteAt
  rw [List.getD_eq_getElem?_getD, List.getElem?_eq_getElem h']
  rfl
theorem okUp_bad (x : Nat → Int) (t n : Nat) (h : t < n) (hb : okUp x (t + 1) = false) : okUp x n = false := by
  obtain ⟨k, rfl⟩ : ∃ k, n = t + 1 + k := ⟨n - t - 1, by omega⟩
  clear h
  induction k with
  | zero => exact hb
  | succ k ih => rw [← Nat.add_assoc]; simp only [okUp, ih, Bool.false_and]

/-- The hash that Parse tells of 64 signs, and its error. -/
def parF (s : ByteArray) : Nat → Int := if okUp (byteAt s) 32 then parUp (byteAt s) 32 else fun _ => 0
def parE (s : ByteArray) : Int := if okUp (byteAt s) 32 then 0 else 10

theorem results_cell_row2 {P : Program} {fn : Func} {p u : Tmp} {ty : TypeId} (h : fn.results = #[.cell p ty, .tmp u]) (tmps : Array Value) (w : World) (g : Nat) (t : TypeId) (cs : Array Value) (fr : Nat × Nat) (d : TypeDesc) (y : Value)
    (hp : tmps.getD p undef = .pointer (some ⟨g, 0, none⟩)) (hy : tmps.getD u undef = y) (hg : w.heap[g]? = some (.cells cs t fr))
    (hu : P.underlying ty = some d) (hd : (match d with | .struct _ | .array _ _ => true | _ => false) = true) (hi : (P.info? ty).map (·.size) = some cs.size) :
    (results fn tmps).run P w = .ok (.tuple #[.agg cs, y]) w := by
  rw [results_cell_tmp h, hp, hy]
  simp [asAddr, Result.andThen, run_loadVar_row w g t ty cs fr d hg hu hd hi]

set_option maxHeartbeats 1000000 in
theorem parse_short (s : ByteArray) (w : World) (hs : s.size ≠ 64) :
    Calls Try.prog 29 #[.string s] w fun e w' => e = .returned (.tuple #[.agg (bytesA 32 fun _ => 0), .int .i64 10]) ∧ Below w.heap.size w w' := by
  have hb : ((s.size : Int) != 64) = true := by rw [bne_iff_ne]; omega
  go_enter Try.func29, Try.ntmps29
  go_wp2_with (first | (refine wpList_new rfl 23 rfl _ Try.new23 ?_) | (refine wpList_bld rfl 23 _ rfl (bytesA 32 fun _ => 0) (by kernel_rfl) ?_; refine wpList_store_row rfl 23 (.tmp 2) (.tmp 11) rfl w.heap.size (bytesA 32 fun _ => 0) rfl rfl 23 (bytesA 32 fun _ => 0) (Blk.new _ _ _) (Try.size23B _) (bytesA_sizes _ _ _) (bytesA_one _ _) ?_))
  exact bodyPost_ret (v := .tuple #[.agg (bytesA 32 fun _ => 0), .int .i64 10]) (results_cell_row2 Try.results29 _ _ w.heap.size 23 _ (0, 0) _ _ rfl rfl ((Blk.new _ _ _).setRow _) Try.underlying23 rfl (Try.size23B _)) rfl ⟨rfl, below_setRow (below_new _ _) (Nat.le_refl _) _⟩

set_option maxHeartbeats 1000000 in
theorem parse_any (s : ByteArray) (w : World) (hs : s.size = 64) :
    Calls Try.prog 29 #[.string s] w fun e w' => e = .returned (.tuple #[.agg (bytesA 32 (parF s)), .int .i64 (parE s)]) ∧ Below w.heap.size w w' := by
  have hb : ((s.size : Int) != 64) = false := by rw [bne_eq_false_iff_eq]; omega
  go_enter Try.func29, Try.ntmps29
  go_wp2_with (first | (refine wpList_new rfl 23 rfl _ Try.new23 ?_))
  have hR := (Blk.new w 23 (bytesA 32 fun _ => 0)).alloc (.cells (bytesA 32 fun _ => 0) 23)
  have hH := Blk.new (w.alloc (.cells (bytesA 32 fun _ => 0) 23)) 23 (bytesA 32 fun _ => 0)
  have hB : Below w.heap.size w ((w.alloc (.cells (bytesA 32 fun _ => 0) 23)).alloc (.cells (bytesA 32 fun _ => 0) 23)) :=
    ((Below.refl _ _).alloc (Nat.le_refl _) _).alloc (by simp) _
  simp only [World.size_alloc] at hH
  generalize ((w.alloc (.cells (bytesA 32 fun _ => 0) 23)).alloc (.cells (bytesA 32 fun _ => 0) 23)) = w0 at *
  obtain ⟨x, hx⟩ : ∃ x, Keep (x = byteAt s) := ⟨_, ⟨rfl⟩⟩
  go_loopw [12] (fun i wr => ∃ t : Nat, t ≤ 32 ∧ i = .int .i64 t ∧ Hid (okUp x t = true) ∧ Blk wr w.heap.size 23 (bytesA 32 fun _ => 0) ∧ Blk wr (w.heap.size + 1) 23 (bytesA 32 (parUp x t)) ∧ Below w.heap.size w wr) (fun i _ => 32 - (intOf i).toNat)
  case atStart => exact ⟨0, by omega, rfl, rfl, hR, hH, hB⟩
  case round =>
    clear hR hH hB
    obtain ⟨t, ht, rfl, hok, hR, hH, hB⟩ := hrel
    by_cases hlt : t < 32
    · have hlt' : (t : Int) < 32 := by omega
      have l1 : 2 * t < s.size := by omega
      have l2 : 2 * t + 1 < s.size := by omega
      have x1 : Keep (x (2 * t) = (s[2 * t].toNat : Int)) := ⟨by rw [hx.out, byteAt_get s _ l1]⟩
      have x2 : Keep (x (2 * t + 1) = (s[2 * t + 1].toNat : Int)) := ⟨by rw [hx.out, byteAt_get s _ l2]⟩
      have b1 := hexv_le (s[2 * t].toNat : Int)
      have b2 := hexv_le (s[2 * t + 1].toNat : Int)
      by_cases c1 : hexv (s[2 * t].toNat : Int) < 0
      · have hbad : Keep (okUp (byteAt s) 32 = false) := ⟨by
          rw [← hx.out]; exact okUp_bad x t 32 (by omega) (by simp only [okUp, x1.out]; rw [decide_eq_false (show ¬ 0 ≤ hexv (s[2 * t].toNat : Int) by omega)]; simp)⟩
        go_wp2_with (first | (go_at_call 45; refine (ix_any _ _).mono ?_; rintro e w' ⟨rfl, rfl⟩) | (refine wpList_bld rfl 23 _ rfl (bytesA 32 fun _ => 0) (by kernel_rfl) ?_; refine wpList_store_row rfl 23 (.tmp 2) (.tmp 32) rfl w.heap.size (bytesA 32 fun _ => 0) rfl rfl 23 (bytesA 32 fun _ => 0) hR (Try.size23B _) (bytesA_sizes _ _ _) (bytesA_one _ _) ?_))
        exact bodyPost_ret (v := .tuple #[.agg (bytesA 32 fun _ => 0), .int .i64 10]) (results_cell_row2 Try.results29 _ _ w.heap.size 23 _ (0, 0) _ _ rfl rfl (hR.setRow _) Try.underlying23 rfl (Try.size23B _)) rfl ⟨by unfold parF parE; rw [hbad.out]; rfl, below_setRow hB (Nat.le_refl _) _⟩
      · by_cases c2 : hexv (s[2 * t + 1].toNat : Int) < 0
        · have hbad : Keep (okUp (byteAt s) 32 = false) := ⟨by
            rw [← hx.out]; exact okUp_bad x t 32 (by omega) (by simp only [okUp, x2.out]; rw [decide_eq_false (show ¬ 0 ≤ hexv (s[2 * t + 1].toNat : Int) by omega)]; simp)⟩
          go_wp2_with (first | (go_at_call 45; refine (ix_any _ _).mono ?_; rintro e w' ⟨rfl, rfl⟩) | (refine wpList_bld rfl 23 _ rfl (bytesA 32 fun _ => 0) (by kernel_rfl) ?_; refine wpList_store_row rfl 23 (.tmp 2) (.tmp 32) rfl w.heap.size (bytesA 32 fun _ => 0) rfl rfl 23 (bytesA 32 fun _ => 0) hR (Try.size23B _) (bytesA_sizes _ _ _) (bytesA_one _ _) ?_))
          exact bodyPost_ret (v := .tuple #[.agg (bytesA 32 fun _ => 0), .int .i64 10]) (results_cell_row2 Try.results29 _ _ w.heap.size 23 _ (0, 0) _ _ rfl rfl (hR.setRow _) Try.underlying23 rfl (Try.size23B _)) rfl ⟨by unfold parF parE; rw [hbad.out]; rfl, below_setRow hB (Nat.le_refl _) _⟩
        · have c1' : 0 ≤ hexv (s[2 * t].toNat : Int) := by omega
          have c2' : 0 ≤ hexv (s[2 * t + 1].toNat : Int) := by omega
          have cc : wr.cell? ⟨w.heap.size + 1, t, none⟩ = some (.int .u8 (parUp x t t)) := by rw [hH.cell, bytesA_get _ _ _ (by omega)]
          have cf : wr.frozen? ⟨w.heap.size + 1, t, none⟩ = false := hH.frozen t
          go_wp2_with (go_at_call 45; refine (ix_any _ _).mono ?_; rintro e w' ⟨rfl, rfl⟩)
          go_roundw
          case rel =>
            have hok' : okUp x (t + 1) = true := by
              simp only [okUp, x1.out, x2.out]
              rw [hok.out, decide_eq_true c1', decide_eq_true c2']; rfl
            have h := hH.set t (.int .u8 (bits .or .i64 (hexv (x (2 * t)) * 16) (hexv (x (2 * t + 1))) % 256))
            rw [bytesA_set] at h
            simp only [x1.out, x2.out] at h
            exact ⟨t + 1, by omega, by go_num, hok', hR.set_ne (by omega) _, by simp only [parUp, x1.out, x2.out]; exact h, hB.setCell (by show w.heap.size ≤ w.heap.size + 1; omega) _⟩
          case measure => simp [intOf]; omega
    · obtain rfl : t = 32 := by omega
      clear hlt ht
      have hF : Keep (parF s = parUp x 32) := ⟨by unfold parF; rw [← hx.out, hok.out]; rfl⟩
      have hE : Keep (parE s = 0) := ⟨by unfold parE; rw [← hx.out, hok.out]; rfl⟩
      obtain ⟨c, hc⟩ : ∃ c, Keep (c = parUp x 32) := ⟨_, ⟨rfl⟩⟩
      rw [← hc.out] at hH hF
      go_wp2_with (refine wpList_load_row rfl 23 (.tmp 4) rfl (w.heap.size + 1) rfl 23 (bytesA 32 c) (0, 0) (.array 32 5) hH Try.underlying23 rfl (Try.size23B _) ?_; refine wpList_store_row rfl 23 (.tmp 2) (.tmp 41) rfl w.heap.size (bytesA 32 c) rfl rfl 23 (bytesA 32 fun _ => 0) hR (Try.size23B _) (bytesA_sizes _ _ _) (bytesA_one _ _) ?_)
      exact bodyPost_ret (v := .tuple #[.agg (bytesA 32 c), .int .i64 0]) (results_cell_row2 Try.results29 _ _ w.heap.size 23 _ (0, 0) _ _ rfl rfl (hR.setRow _) Try.underlying23 rfl (Try.size23B _)) rfl ⟨by rw [hF.out, hE.out], below_setRow hB (Nat.le_refl _) _⟩
end Go.Proofs.Ytbbhjgflaiacaaa
