import Derived.Test.YtbkboebinhafhaaRefB
namespace Go.Proofs.Ytbkboebinhafhaa
open Go.RowKit

/-- The marks behind bytes. -/
def marks (t : Nat) : List Int := (List.range t).map fun i : Nat => 192 + (i : Int)
theorem marks_len (t : Nat) : (marks t).length = t := by simp [marks]
theorem marks_next (t : Nat) : marks (t + 1) = marks t ++ [192 + (t : Int)] := by simp [marks, List.range_succ]
/-- Bytes in memory of their own, with marks behind them. -/
def WideAt (w : World) (v : Value) (l : List Int) : Prop :=
  ∃ g cap, v = .slice (some ⟨g, 0, none⟩) l.length cap ∧ Own w (.slice (some ⟨g, 0, none⟩) (l ++ marks 7).length cap) (l ++ marks 7)
theorem WideAt.cap {w : World} {v : Value} {l : List Int} (h : WideAt w v l) : ∃ g cap, v = .slice (some ⟨g, 0, none⟩) l.length cap ∧ l.length + 7 ≤ cap ∧ cap ≤ maxLen ∧ (∀ i, i < l.length + 7 → w.cell? ⟨g, i, none⟩ = some (.int .u8 ((l ++ marks 7).getD i 0))) ∧ ∃ cur, Blk w g 5 cur ∧ cur.size = cap := by
  obtain ⟨g, cap, rfl, h2⟩ := h
  rcases h2.form with ⟨e, _⟩ | ⟨g', cap', cur, e, hb, h3, h4, h5, h6⟩
  · cases e
  · injection e with e1 e2 e3
    injection e1 with e1
    injection e1 with e1
    subst e1 e3
    refine ⟨g, cap, rfl, by rw [List.length_append, marks_len] at h3; exact h3, h4, fun i hi => ?_, cur, hb, h5⟩
    rw [World.ownsRow.cellAt h2 i (by rw [List.length_append, marks_len]; omega), bv_get _ _ (by rw [List.length_append, marks_len]; omega)]
theorem WideAt.row {w : World} {v : Value} {l : List Int} (h : WideAt w v l) : RowAt w v l := by
  obtain ⟨g, cap, rfl, h1, _, h2, _⟩ := h.cap
  refine .inr (.inr ⟨g, 0, cap, rfl, by omega, fun i hi => ?_⟩)
  rw [Nat.zero_add, h2 i (by omega)]
  simp [List.getD_eq_getElem?_getD, List.getElem?_append, hi]
theorem WideAt.grown {w w' : World} {v : Value} {l : List Int} {S : Nat → Prop} (h : WideAt w v l) (hg : Grown w w' S) (hs : ∀ k, v.ownBlock = some k → ¬ S k) : WideAt w' v l := by
  obtain ⟨g, cap, rfl, h2⟩ := h
  exact ⟨g, cap, rfl, h2.grown hg fun k hk => hs k hk⟩

theorem grow_free {w : World} {v : Value} {B : Nat} (ho : ∃ k, v.ownBlock = some k ∧ B ≤ k) (hB : B ≤ w.heap.size) {w' : World} {v' : Value} {m : List Int} (hp : AppPost w v m v' w') : (∃ k, v'.ownBlock = some k ∧ B ≤ k) ∧ Below B w w' := by
  obtain ⟨k, hk, hBk⟩ := ho
  rcases hp.2 with ⟨h1, h2⟩ | ⟨h1, h2⟩
  · exact ⟨⟨k, by rw [h1, hk], hBk⟩, h2.to_below (fun i hi e => by rw [hk] at e; injection e with e; omega) hB⟩
  · exact ⟨⟨_, h1, hB⟩, h2.mono hB⟩

/-- A row of bytes as a text. -/
theorem conv_row (v : Value) (l : List Int) (w : World) (h : RowAt w v l) : (convert 36 9 v).run Try.prog w = .ok (.string (strOfNums l)) w := by
  rcases h with ⟨rfl, rfl⟩ | ⟨a, c, rfl, rfl⟩ | ⟨b, off, cap, rfl, _, hc⟩
  · rw [run_convert_bytes_nil (P := Try.prog) w 36 5 Try.underlying36 Try.underlying5 0 0 9 Try.underlying9]; rfl
  · rw [run_convert_bytes_string (P := Try.prog) w 36 9 5 _ 0 c Try.underlying36 Try.underlying5 Try.underlying9]
    simp [Conv.bytesToString, loadCells, loadCellsFrom, strOfNums]
    rfl
  · exact run_convert_bytes_arg (P := Try.prog) w 36 5 Try.underlying36 Try.underlying5 b off l.length cap l rfl hc 9 Try.underlying9

/-- The slice v is full of a mark. -/
def FullAt (w : World) (v : Value) (m : Int) : Prop := ∃ n, RowAt w v (List.replicate n m) ∧ n ≤ 140737488355328
end Go.Proofs.Ytbkboebinhafhaa
