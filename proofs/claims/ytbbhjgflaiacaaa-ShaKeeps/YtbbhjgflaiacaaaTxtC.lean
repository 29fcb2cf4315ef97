import Derived.Test.YtbbhjgflaiacaaaTxtB
import Derived.Laws.BytesArg
namespace Go.Proofs.Ytbbhjgflaiacaaa
open Go.RowKit

theorem index23_0 (s : Nat → Int) (w : World) : (Instr.index 23 (.agg (bytesA 32 s)) (.int .i64 0)).run Try.prog w = .ok (.int .u8 (s 0)) w := by kernel_rfl
theorem index23_1 (s : Nat → Int) (w : World) : (Instr.index 23 (.agg (bytesA 32 s)) (.int .i64 1)).run Try.prog w = .ok (.int .u8 (s 1)) w := by kernel_rfl
theorem index23_2 (s : Nat → Int) (w : World) : (Instr.index 23 (.agg (bytesA 32 s)) (.int .i64 2)).run Try.prog w = .ok (.int .u8 (s 2)) w := by kernel_rfl
theorem index23_3 (s : Nat → Int) (w : World) : (Instr.index 23 (.agg (bytesA 32 s)) (.int .i64 3)).run Try.prog w = .ok (.int .u8 (s 3)) w := by kernel_rfl
theorem index23_4 (s : Nat → Int) (w : World) : (Instr.index 23 (.agg (bytesA 32 s)) (.int .i64 4)).run Try.prog w = .ok (.int .u8 (s 4)) w := by kernel_rfl
theorem index23_5 (s : Nat → Int) (w : World) : (Instr.index 23 (.agg (bytesA 32 s)) (.int .i64 5)).run Try.prog w = .ok (.int .u8 (s 5)) w := by kernel_rfl
theorem index23_6 (s : Nat → Int) (w : World) : (Instr.index 23 (.agg (bytesA 32 s)) (.int .i64 6)).run Try.prog w = .ok (.int .u8 (s 6)) w := by kernel_rfl
theorem index23_7 (s : Nat → Int) (w : World) : (Instr.index 23 (.agg (bytesA 32 s)) (.int .i64 7)).run Try.prog w = .ok (.int .u8 (s 7)) w := by kernel_rfl
theorem index23_8 (s : Nat → Int) (w : World) : (Instr.index 23 (.agg (bytesA 32 s)) (.int .i64 8)).run Try.prog w = .ok (.int .u8 (s 8)) w := by kernel_rfl
theorem index23_9 (s : Nat → Int) (w : World) : (Instr.index 23 (.agg (bytesA 32 s)) (.int .i64 9)).run Try.prog w = .ok (.int .u8 (s 9)) w := by kernel_rfl
theorem index23_10 (s : Nat → Int) (w : World) : (Instr.index 23 (.agg (bytesA 32 s)) (.int .i64 10)).run Try.prog w = .ok (.int .u8 (s 10)) w := by kernel_rfl
theorem index23_11 (s : Nat → Int) (w : World) : (Instr.index 23 (.agg (bytesA 32 s)) (.int .i64 11)).run Try.prog w = .ok (.int .u8 (s 11)) w := by kernel_rfl
theorem index23_12 (s : Nat → Int) (w : World) : (Instr.index 23 (.agg (bytesA 32 s)) (.int .i64 12)).run Try.prog w = .ok (.int .u8 (s 12)) w := by kernel_rfl
theorem index23_13 (s : Nat → Int) (w : World) : (Instr.index 23 (.agg (bytesA 32 s)) (.int .i64 13)).run Try.prog w = .ok (.int .u8 (s 13)) w := by kernel_rfl
theorem index23_14 (s : Nat → Int) (w : World) : (Instr.index 23 (.agg (bytesA 32 s)) (.int .i64 14)).run Try.prog w = .ok (.int .u8 (s 14)) w := by kernel_rfl
theorem index23_15 (s : Nat → Int) (w : World) : (Instr.index 23 (.agg (bytesA 32 s)) (.int .i64 15)).run Try.prog w = .ok (.int .u8 (s 15)) w := by kernel_rfl
theorem index23_16 (s : Nat → Int) (w : World) : (Instr.index 23 (.agg (bytesA 32 s)) (.int .i64 16)).run Try.prog w = .ok (.int .u8 (s 16)) w := by kernel_rfl
theorem index23_17 (s : Nat → Int) (w : World) : (Instr.index 23 (.agg (bytesA 32 s)) (.int .i64 17)).run Try.prog w = .ok (.int .u8 (s 17)) w := by kernel_rfl
theorem index23_18 (s : Nat → Int) (w : World) : (Instr.index 23 (.agg (bytesA 32 s)) (.int .i64 18)).run Try.prog w = .ok (.int .u8 (s 18)) w := by kernel_rfl
theorem index23_19 (s : Nat → Int) (w : World) : (Instr.index 23 (.agg (bytesA 32 s)) (.int .i64 19)).run Try.prog w = .ok (.int .u8 (s 19)) w := by kernel_rfl
theorem index23_20 (s : Nat → Int) (w : World) : (Instr.index 23 (.agg (bytesA 32 s)) (.int .i64 20)).run Try.prog w = .ok (.int .u8 (s 20)) w := by kernel_rfl
theorem index23_21 (s : Nat → Int) (w : World) : (Instr.index 23 (.agg (bytesA 32 s)) (.int .i64 21)).run Try.prog w = .ok (.int .u8 (s 21)) w := by kernel_rfl
theorem index23_22 (s : Nat → Int) (w : World) : (Instr.index 23 (.agg (bytesA 32 s)) (.int .i64 22)).run Try.prog w = .ok (.int .u8 (s 22)) w := by kernel_rfl
theorem index23_23 (s : Nat → Int) (w : World) : (Instr.index 23 (.agg (bytesA 32 s)) (.int .i64 23)).run Try.prog w = .ok (.int .u8 (s 23)) w := by kernel_rfl
theorem index23_24 (s : Nat → Int) (w : World) : (Instr.index 23 (.agg (bytesA 32 s)) (.int .i64 24)).run Try.prog w = .ok (.int .u8 (s 24)) w := by kernel_rfl
theorem index23_25 (s : Nat → Int) (w : World) : (Instr.index 23 (.agg (bytesA 32 s)) (.int .i64 25)).run Try.prog w = .ok (.int .u8 (s 25)) w := by kernel_rfl
theorem index23_26 (s : Nat → Int) (w : World) : (Instr.index 23 (.agg (bytesA 32 s)) (.int .i64 26)).run Try.prog w = .ok (.int .u8 (s 26)) w := by kernel_rfl
theorem index23_27 (s : Nat → Int) (w : World) : (Instr.index 23 (.agg (bytesA 32 s)) (.int .i64 27)).run Try.prog w = .ok (.int .u8 (s 27)) w := by kernel_rfl
theorem index23_28 (s : Nat → Int) (w : World) : (Instr.index 23 (.agg (bytesA 32 s)) (.int .i64 28)).run Try.prog w = .ok (.int .u8 (s 28)) w := by kernel_rfl
theorem index23_29 (s : Nat → Int) (w : World) : (Instr.index 23 (.agg (bytesA 32 s)) (.int .i64 29)).run Try.prog w = .ok (.int .u8 (s 29)) w := by kernel_rfl
theorem index23_30 (s : Nat → Int) (w : World) : (Instr.index 23 (.agg (bytesA 32 s)) (.int .i64 30)).run Try.prog w = .ok (.int .u8 (s 30)) w := by kernel_rfl
theorem index23_31 (s : Nat → Int) (w : World) : (Instr.index 23 (.agg (bytesA 32 s)) (.int .i64 31)).run Try.prog w = .ok (.int .u8 (s 31)) w := by kernel_rfl
theorem index23 (s : Nat → Int) (t : Nat) (ht : t < 32) (w : World) : (Instr.index 23 (.agg (bytesA 32 s)) (.int .i64 (t : Int))).run Try.prog w = .ok (.int .u8 (s t)) w := by
  match t, ht with
  | 0, _ => exact index23_0 s w
  | 1, _ => exact index23_1 s w
  | 2, _ => exact index23_2 s w
  | 3, _ => exact index23_3 s w
  | 4, _ => exact index23_4 s w
  | 5, _ => exact index23_5 s w
  | 6, _ => exact index23_6 s w
  | 7, _ => exact index23_7 s w
  | 8, _ => exact index23_8 s w
  | 9, _ => exact index23_9 s w
  | 10, _ => exact index23_10 s w
  | 11, _ => exact index23_11 s w
  | 12, _ => exact index23_12 s w
  | 13, _ => exact index23_13 s w
  | 14, _ => exact index23_14 s w
  | 15, _ => exact index23_15 s w
  | 16, _ => exact index23_16 s w
  | 17, _ => exact index23_17 s w
  | 18, _ => exact index23_18 s w
  | 19, _ => exact index23_19 s w
  | 20, _ => exact index23_20 s w
  | 21, _ => exact index23_21 s w
  | 22, _ => exact index23_22 s w
  | 23, _ => exact index23_23 s w
  | 24, _ => exact index23_24 s w
  | 25, _ => exact index23_25 s w
  | 26, _ => exact index23_26 s w
  | 27, _ => exact index23_27 s w
  | 28, _ => exact index23_28 s w
  | 29, _ => exact index23_29 s w
  | 30, _ => exact index23_30 s w
  | 31, _ => exact index23_31 s w
  | n + 32, h => omega

def dgt (k : Int) : Int := if k < 10 then 48 + k else 87 + k
/-- The signs of a hash as text. -/
def chr (c : Nat → Int) (j : Nat) : Int := if j % 2 = 0 then dgt (c (j / 2) / 16) else dgt (c (j / 2) % 16)
def prUp (c : Nat → Int) (t : Nat) : Nat → Int := fun j => if j < 2 * t then chr c j else 0
def prS (c : Nat → Int) : ByteArray := strOfNums ((List.range 64).map (chr c))
theorem pr_next (c : Nat → Int) (t : Nat) (u v : Int) (eu : c t / 16 = u) (ev : c t % 16 = v) : upd (upd (prUp c t) (2 * t) (dgt u)) (2 * t + 1) (dgt v) = prUp c (t + 1) := by
  funext j
  simp only [upd, prUp]
  by_cases h1 : j = 2 * t + 1
  · subst h1
    rw [if_pos rfl, if_pos (by omega)]
    unfold chr
    rw [if_neg (by omega), show (2 * t + 1) / 2 = t by omega, ev]
  · rw [if_neg h1]
    by_cases h2 : j = 2 * t
    · subst h2
      rw [if_pos rfl, if_pos (by omega)]
      unfold chr
      rw [if_pos (by omega), show 2 * t / 2 = t by omega, eu]
    · rw [if_neg h2]
      by_cases h3 : j < 2 * t
      · rw [if_pos h3, if_pos (by omega)]
      · rw [if_neg h3, if_neg (by omega)]
theorem Try.new64 (w : World) : (Instr.alloc 64 true (.tuple #[])).run Try.prog w = .ok (.pointer (some ⟨w.heap.size, 0, none⟩)) (w.alloc (.cells (bytesA 64 fun _ => 0) 64)) := by kernel_rfl
theorem digits_at (k : Nat) (hk : k < 16) : ((digitsS[k]'hk).toNat : Int) = dgt k := by
  have : ∀ k : Fin 16, ((digitsS[k.val]'k.isLt).toNat : Int) = dgt k.val := by decide +kernel
  exact this ⟨k, hk⟩
theorem and15 (y : Nat) (hy : y < 256) : bits .and .u8 (y : Int) 15 = ((y % 16 : Nat) : Int) := by
  have : ∀ y : Fin 256, bits .and .u8 (y.val : Int) 15 = ((y.val % 16 : Nat) : Int) := by decide +kernel
  exact this ⟨y, hy⟩

set_option maxHeartbeats 1000000 in
theorem print_any (c : Nat → Int) (hc : ∀ i, i < 32 → 0 ≤ c i ∧ c i < 256) (w : World) :
    Calls Try.prog 31 #[.agg (bytesA 32 c)] w fun e w' => e = .returned (.string (prS c)) ∧ Below w.heap.size w w' := by
  have HC : Keep (∀ i, i < 32 → 0 ≤ c i ∧ c i < 256) := ⟨hc⟩
  clear hc
  go_enter Try.func31, Try.ntmps31
  go_wp2_with (first | (refine wpList_boxA rfl 23 (.tmp 0) rfl (bytesA 32 c) rfl ?_) | (refine wpList_new rfl 64 rfl _ Try.new64 ?_) | (refine wpList_load_row rfl 23 (.tmp 1) rfl w.heap.size rfl 23 (bytesA 32 c) (0, 0) (.array 32 5) ((Blk.new w 23 (bytesA 32 c)).alloc _) Try.underlying23 rfl (Try.size23B _) ?_))
  have hT := Blk.new (w.alloc (.cells (bytesA 32 c) 23)) 64 (bytesA 64 fun _ => 0)
  have hB : Below w.heap.size w ((w.alloc (.cells (bytesA 32 c) 23)).alloc (.cells (bytesA 64 fun _ => 0) 64)) := ((Below.refl _ _).alloc (Nat.le_refl _) _).alloc (by simp) _
  simp only [World.size_alloc] at hT
  generalize ((w.alloc (.cells (bytesA 32 c) 23)).alloc (.cells (bytesA 64 fun _ => 0) 64)) = w0 at *
  go_loopw [7] (fun i wr => ∃ t : Nat, t ≤ 32 ∧ i = .int .i64 t ∧ Blk wr (w.heap.size + 1) 64 (bytesA 64 (prUp c t)) ∧ Below w.heap.size w wr) (fun i _ => 32 - (intOf i).toNat)
  case atStart => exact ⟨0, by omega, rfl, by rw [show prUp c 0 = fun _ => 0 from funext fun j => by simp [prUp]]; exact hT, hB⟩
  case round =>
    clear hT hB
    obtain ⟨t, ht, rfl, hT, hB⟩ := hrel
    by_cases hlt : t < 32
    · have hix := index23 c t hlt
      obtain ⟨y, hy⟩ : ∃ y : Nat, c t = y := ⟨(c t).toNat, by have := HC.out t hlt; omega⟩
      have hy2 : y < 256 := by have := HC.out t hlt; omega
      rw [hy] at hix
      have hlt' : (t : Int) < 32 := by omega
      obtain ⟨u, hu⟩ : ∃ u, Keep (y / 16 = u) := ⟨_, ⟨rfl⟩⟩
      obtain ⟨v, hv⟩ : ∃ v, Keep (y % 16 = v) := ⟨_, ⟨rfl⟩⟩
      have u16 : u < 16 := by have := hu.out; omega
      have v16 : v < 16 := by have := hv.out; omega
      have u16' : (u : Int) < 16 := by omega
      have v16' : (v : Int) < 16 := by omega
      have a1 := and15 y hy2
      rw [hv.out] at a1
      have a2 : (y : Int) / 16 = (u : Int) := by have := hu.out; omega
      have c0 : wr.cell? ⟨w.heap.size + 1, 2 * t, none⟩ = some (.int .u8 (prUp c t (2 * t))) := by rw [hT.cell, bytesA_get _ _ _ (by omega)]
      have f0 : wr.frozen? ⟨w.heap.size + 1, 2 * t, none⟩ = false := hT.frozen _
      have c1 : wr.cell? ⟨w.heap.size + 1, 2 * t + 1, none⟩ = some (.int .u8 (prUp c t (2 * t + 1))) := by rw [hT.cell, bytesA_get _ _ _ (by omega)]
      have f1 : wr.frozen? ⟨w.heap.size + 1, 2 * t + 1, none⟩ = false := hT.frozen _
      go_wp2
      go_roundw
      case rel =>
        have e1 : ((({ data := #[48, 49, 50, 51, 52, 53, 54, 55, 56, 57, 97, 98, 99, 100, 101, 102] } : ByteArray)[u]'u16).toNat : Int) = dgt u := digits_at u u16
        have e2 : ((({ data := #[48, 49, 50, 51, 52, 53, 54, 55, 56, 57, 97, 98, 99, 100, 101, 102] } : ByteArray)[v]'v16).toNat : Int) = dgt v := digits_at v v16
        have le : w.heap.size ≤ w.heap.size + 1 := by omega
        have h := (hT.set (2 * t) (.int .u8 (dgt u))).set (2 * t + 1) (.int .u8 (dgt v))
        rw [bytesA_set, bytesA_set] at h
        have hup : upd (upd (prUp c t) (2 * t) (dgt u)) (2 * t + 1) (dgt v) = prUp c (t + 1) := by
          have ev : (c t) % 16 = (v : Int) := by rw [hy]; have := hv.out; omega
          have eu : (c t) / 16 = (u : Int) := by rw [hy]; exact a2
          exact pr_next c t u v eu ev
        rw [hup] at h
        refine ⟨t + 1, by omega, by go_num, ?_, (hB.setCell le _).setCell le _⟩
        rw [e1, e2]
        exact h
      case measure => simp [intOf]; omega
    · obtain rfl : t = 32 := by omega
      have hcv := run_convert_bytes_arg (P := Try.prog) wr 28 5 Try.underlying28 Try.underlying5 (w.heap.size + 1) 0 64 64 ((List.range 64).map (chr c)) (by simp) (fun i hi => by
        rw [Nat.zero_add, hT.cell, bytesA_get _ _ _ hi]
        simp [prUp, hi]) 9 Try.underlying9
      go_wp2
      go_ret
      exact ⟨rfl, hB⟩
end Go.Proofs.Ytbbhjgflaiacaaa
