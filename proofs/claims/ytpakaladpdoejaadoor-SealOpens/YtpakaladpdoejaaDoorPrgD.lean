import Derived.Test.YtpakaladpdoejaaDoorPrgC
import Derived.Lib.EndianBits
namespace Go.Proofs.YtpakaladpdoejaaDoor
open Go.RowKit

/-- What is wrong with the number of bytes. -/
def sizeE (b : List Int) : Option (Int × Int) :=
  if b.length < 10 then some (20, 6) else if 2097152 < lenN b then some (22, 6) else if b.length < lenN b + 42 then some (20, 10) else if lenN b + 42 < b.length then some (23, (lenN b : Int) + 42) else none
/-- A pointer to what is wrong, or none. -/
def BadV (r : Option (Int × Int)) (B : Nat) (pv : Value) (w' : World) : Prop :=
  (r = none ∧ pv = .pointer none) ∨ ∃ y p g, r = some (y, p) ∧ B ≤ g ∧ pv = ptr g ∧ Blk w' g 46 #[.int .i64 y, .int .i64 p]
def BadPost (r : Option (Int × Int)) (w : World) (e : Ending) (w' : World) : Prop :=
  ∃ pv, e = .returned pv ∧ Below w.heap.size w w' ∧ BadV r w.heap.size pv w'
theorem badPost_new {r : Option (Int × Int)} {w w1 : World} {y p : Int} (hr : r = some (y, p)) (hb : Below w.heap.size w w1) : BadPost r w (.returned (ptr w1.heap.size)) (w1.alloc (.cells #[.int .i64 y, .int .i64 p] 46)) :=
  ⟨_, rfl, hb.alloc hb.size _, .inr ⟨y, p, _, hr, hb.size, rfl, Blk.new _ _ _⟩⟩
theorem below_drewK {B : Nat} {a w : World} (h : Below B a w) (n : Nat) : Below B a (w.drewN n) := ⟨h.os, h.tape, h.output, h.size, h.block⟩
theorem row_cells {w : World} {v : Value} {l : List Int} (h : RowAt w v l) (h0 : 0 < l.length) : ∃ g off cap, v = .slice (some ⟨g, off, none⟩) l.length cap ∧ ∀ i, i < l.length → w.cell? ⟨g, off + i, none⟩ = some (.int .u8 (l.getD i 0)) := by
  rcases h with ⟨_, rfl⟩ | ⟨a, c, _, rfl⟩ | ⟨g, off, cap, rfl, _, hc⟩
  · simp at h0
  · simp at h0
  · exact ⟨g, off, cap, rfl, hc⟩
theorem le4 (x6 x7 x8 x9 : Int) (h6 : 0 ≤ x6 ∧ x6 < 256) (h7 : 0 ≤ x7 ∧ x7 < 256) (h8 : 0 ≤ x8 ∧ x8 < 256) (h9 : 0 ≤ x9 ∧ x9 < 256) :
    bits .or .u32 (bits .or .u32 (bits .or .u32 x6 (x7 * 256)) (x8 * 65536)) (x9 * 16777216) = x6 + 256 * x7 + 65536 * x8 + 16777216 * x9 := by
  have e1 : bits .or .u32 x6 (x7 * 256) = x6 + x7 * 256 := u32_or8 _ _ (by omega) (by omega) (by omega) (by omega) (by omega)
  have e2 : bits .or .u32 (x6 + x7 * 256) (x8 * 65536) = x6 + x7 * 256 + x8 * 65536 := u32_or16 _ _ (by omega) (by omega) (by omega) (by omega) (by omega)
  have e3 : bits .or .u32 (x6 + x7 * 256 + x8 * 65536) (x9 * 16777216) = x6 + x7 * 256 + x8 * 65536 + x9 * 16777216 := u32_or24 _ _ (by omega) (by omega) (by omega) (by omega) (by omega)
  rw [e1, e2, e3]
  omega
set_option maxRecDepth 8000 in
set_option maxHeartbeats 1000000 in
theorem wsize_any (vb : Value) (b : List Int) (w : World) (hb : RowAt w vb b) (hbl : b.length ≤ 140737500000000) (hby : Byts b) : Calls Tryd.prog 25 #[vb] w (BadPost (sizeE b) w) := by
  have hsm : (b.length : Int) ≤ 140737500000000 := by omega
  obtain ⟨r, hr⟩ : ∃ r, Keep (r = sizeE b) := ⟨_, ⟨rfl⟩⟩
  rw [← hr.out]
  by_cases h10 : b.length < 10
  · obtain ⟨ba, bc, rfl⟩ := row_form hb
    have h10' : (b.length : Int) < 10 := by omega
    have HR : Keep (r = some (20, 6)) := ⟨by rw [hr.out]; unfold sizeE; rw [if_pos h10]⟩
    clear hr h10 hb hbl hby
    go_enter Tryd.func25, Tryd.ntmps25
    go_wp2
    go_ret
    exact badPost_new HR.out (Below.refl _ _)
  · obtain ⟨g, off, cap, rfl, hc⟩ := row_cells hb (by omega)
    have h10' : ¬ (b.length : Int) < 10 := by omega
    have h10'' : (10 : Int) ≤ (b.length : Int) := by omega
    have c6 := hc 6 (by omega)
    have c7 := hc 7 (by omega)
    have c8 := hc 8 (by omega)
    have c9 := hc 9 (by omega)
    have r6 := hby.getD 6
    have r7 := hby.getD 7
    have r8 := hby.getD 8
    have r9 := hby.getD 9
    have HL : Keep ((lenN b : Int) = b.getD 6 0 + 256 * b.getD 7 0 + 65536 * b.getD 8 0 + 16777216 * b.getD 9 0) := ⟨by unfold lenN; omega⟩
    obtain ⟨n, hn⟩ : ∃ n, Keep (n = lenN b) := ⟨_, ⟨rfl⟩⟩
    rw [← hn.out] at HL
    generalize b.getD 6 0 = x6 at *
    generalize b.getD 7 0 = x7 at *
    generalize b.getD 8 0 = x8 at *
    generalize b.getD 9 0 = x9 at *
    have HV : Keep (bits .or .u32 (bits .or .u32 (bits .or .u32 x6 (x7 * 256)) (x8 * 65536)) (x9 * 16777216) = (n : Int)) := ⟨by rw [le4 _ _ _ _ r6 r7 r8 r9]; exact HL.out.symm⟩
    have HN : Keep ((n : Int) < 4294967296) := ⟨by have := HL.out; omega⟩
    clear hb hbl hby hc HL
    have Hh10 := Keep.mk h10
    clear h10
    go_enter Tryd.func25, Tryd.ntmps25
    go_wp2_with fail
    go_quiet (fail)
    rw [HV.out]
    have hB : Below w.heap.size w (w.drewN nq) := below_drewK (Below.refl _ _) nq
    have hn0 : (n : Int) < 4294967296 := HN.out
    have HRr : Keep (r = if 2097152 < n then some (22, 6) else if b.length < n + 42 then some (20, 10) else if n + 42 < b.length then some (23, (n : Int) + 42) else none) := ⟨by rw [hr.out]; unfold sizeE; rw [if_neg Hh10.out, ← hn.out]⟩
    clear c6 c7 c8 c9 r6 r7 r8 r9 HV HN hr hn Hh10
    generalize w.drewN nq = w1 at *
    by_cases h1 : 2097152 < n
    · have h1' : (2097152 : Int) < (n : Int) := by omega
      have HR : Keep (r = some (22, 6)) := ⟨by rw [HRr.out, if_pos h1]⟩
      clear HRr h1
      have HB := Keep.mk hB
      clear hB
      go_wp2
      go_ret
      exact badPost_new HR.out HB.out
    · have h1' : (n : Int) ≤ 2097152 := by omega
      clear hn0
      by_cases h2 : b.length < n + 42
      · have h2' : (b.length : Int) < 10 + (n : Int) + 32 := by omega
        have HR : Keep (r = some (20, 10)) := ⟨by rw [HRr.out, if_neg h1, if_pos h2]⟩
        clear HRr h1 h2
        have HB := Keep.mk hB
        clear hB
        go_wp2
        go_ret
        exact badPost_new HR.out HB.out
      · have h2' : ¬ (b.length : Int) < 10 + (n : Int) + 32 := by omega
        by_cases h3 : n + 42 < b.length
        · have h3' : 10 + (n : Int) + 32 < (b.length : Int) := by omega
          have HR : Keep (r = some (23, 10 + (n : Int) + 32)) := ⟨by rw [HRr.out, if_neg h1, if_neg h2, if_pos h3, show (n : Int) + 42 = 10 + (n : Int) + 32 by omega]⟩
          clear HRr h1 h2 h3
          have HB := Keep.mk hB
          clear hB
          go_wp2
          go_ret
          exact badPost_new HR.out HB.out
        · have h3' : ¬ 10 + (n : Int) + 32 < (b.length : Int) := by omega
          have HR : Keep (r = none) := ⟨by rw [HRr.out, if_neg h1, if_neg h2, if_neg h3]⟩
          clear HRr h1 h2 h3
          have HB := Keep.mk hB
          clear hB
          go_wp2
          go_ret
          exact ⟨_, rfl, HB.out, .inl ⟨HR.out, rfl⟩⟩
end Go.Proofs.YtpakaladpdoejaaDoor
