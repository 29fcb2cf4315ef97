import Derived.Test.YtanmbbckkfkhpaaRefB
namespace Go.Proofs.Ytanmbbckkfkhpaa
open Go.RowKit

/-- The marks behind bytes. -/
def marks (t : Nat) : List Int := (List.range t).map fun i : Nat => 192 + (i : Int)
theorem marks_len (t : Nat) : (marks t).length = t := by simp [marks]
theorem marks_next (t : Nat) : marks (t + 1) = marks t ++ [192 + (t : Int)] := by simp [marks, List.range_succ]
/-- Bytes in memory of their own, with marks behind them. -/
def WideAt (w : World) (v : Value) (l : List Int) : Prop :=
  ∃ g cap, v = .slice (some ⟨g, 0, none⟩) l.length cap ∧ Own w (.slice (some ⟨g, 0, none⟩) (l ++ marks 7).length cap) (l ++ marks 7)
theorem WideAt.cap {w : World} {v : Value} {l : List Int} (h : WideAt w v l) : ∃ g cap, v = .slice (some ⟨g, 0, none⟩) l.length cap ∧ l.length + 7 ≤ cap ∧ cap ≤ maxLen ∧ (∀ i, i < l.length + 7 → w.cell? ⟨g, i, none⟩ = some (.int .u8 ((l ++ marks 7).getD i 0))) ∧ ∃ cur, Blk w g 5 cur ∧ cur.size = cap := by
  obtain ⟨g, cap, rfl, h2⟩ := h
  rcases h2.form with ⟨e, _⟩ | ⟨g', cap', cur, e, hb, h3, h4, h5, h6⟩
  · cases e
  · injection e with e1 e2 e3
    injection e1 with e1
    injection e1 with e1
    subst e1 e3
    refine ⟨g, cap, rfl, by rw [List.length_append, marks_len] at h3; exact h3, h4, fun i hi => ?_, cur, hb, h5⟩
    rw [World.ownsRow.cellAt h2 i (by rw [List.length_append, marks_len]; omega), bv_get _ _ (by rw [List.length_append, marks_len]; omega)]
theorem WideAt.row {w : World} {v : Value} {l : List Int} (h : WideAt w v l) : RowAt w v l := by
  obtain ⟨g, cap, rfl, h1, _, h2, _⟩ := h.cap
  refine .inr (.inr ⟨g, 0, cap, rfl, by omega, fun i hi => ?_⟩)
  rw [Nat.zero_add, h2 i (by omega)]
  simp [List.getD_eq_getElem?_getD, List.getElem?_append, hi]
theorem WideAt.grown {w w' : World} {v : Value} {l : List Int} {S : Nat → Prop} (h : WideAt w v l) (hg : Grown w w' S) (hs : ∀ k, v.ownBlock = some k → ¬ S k) : WideAt w' v l := by
  obtain ⟨g, cap, rfl, h2⟩ := h
  exact ⟨g, cap, rfl, h2.grown hg fun k hk => hs k hk⟩

theorem grow_free {w : World} {v : Value} {B : Nat} (ho : ∃ k, v.ownBlock = some k ∧ B ≤ k) (hB : B ≤ w.heap.size) {w' : World} {v' : Value} {m : List Int} (hp : AppPost w v m v' w') : (∃ k, v'.ownBlock = some k ∧ B ≤ k) ∧ Below B w w' := by
  obtain ⟨k, hk, hBk⟩ := ho
  rcases hp.2 with ⟨h1, h2⟩ | ⟨h1, h2⟩
  · exact ⟨⟨k, by rw [h1, hk], hBk⟩, h2.to_below (fun i hi e => by rw [hk] at e; injection e with e; omega) hB⟩
  · exact ⟨⟨_, h1, hB⟩, h2.mono hB⟩

set_option maxHeartbeats 1000000 in
theorem wide_any (v : Value) (l : List Int) (w : World) (hr : RowAt w v l) (hb : l.length + 7 ≤ 140737488355328) :
    Calls Try.prog 19 #[v] w fun e w' => ∃ v', e = .returned v' ∧ WideAt w' v' l ∧ (∃ k, v'.ownBlock = some k ∧ w.heap.size ≤ k) ∧ Below w.heap.size w w' := by
  have HR := Keep.mk (hr.below (below_new w (.cells (bytesA (l.length + 7) fun _ => 0) 5)))
  have HB := Keep.mk hb
  obtain ⟨xa, xc, rfl⟩ := row_form hr
  have h7 : ((l.length : Int) + 7) = ((l.length + 7 : Nat) : Int) := by omega
  have hsm : (l.length : Int) ≤ 9223372036854775800 := by omega
  have hO0 : Own (w.alloc (.cells (bytesA (l.length + 7) fun _ => 0) 5)) (.slice (some ⟨w.heap.size, 0, none⟩) 0 (l.length + 7)) [] :=
    Own.mk (Blk.new w 5 _) (by simp) (by unfold maxLen; omega) (by rw [bytesA_size]) (by simp [bv])
  have HO0 := Keep.mk hO0
  have hmk := run_makeB 0 (l.length + 7) (by omega) (by omega) w
  have hmk2 : (Instr.makeSlice 36 (.int .i64 0) (.int .i64 ((l.length : Int) + 7))).run Try.prog w = .ok (.slice (some ⟨w.heap.size, 0, none⟩) 0 (l.length + 7)) (w.alloc (.cells (bytesA (l.length + 7) fun _ => 0) 5)) := by rw [h7]; exact hmk
  have HBe := Keep.mk (below_new w (.cells (bytesA (l.length + 7) fun _ => 0) 5))
  clear hr hb hmk hO0 h7
  go_enter Try.func19, Try.ntmps19
  generalize w.alloc (.cells (bytesA (l.length + 7) fun _ => 0) 5) = w1 at *
  go_wp2_with (first | (at_builtin; refine wpList_app rfl (.tmp 9) (.tmp 10) rfl (.slice (some ⟨w.heap.size, 0, none⟩) 0 (l.length + 7)) _ [] l rfl rfl HO0.out HR.out (by have := HB.out; simp; omega) ?_; intro v' w' hp; refine Hid.out ?_))
  refine hid_in ?_
  have hfree := grow_free (v := .slice (some ⟨w.heap.size, 0, none⟩) 0 (l.length + 7)) (B := w.heap.size) ⟨w.heap.size, rfl, Nat.le_refl _⟩ HBe.out.size hp
  have HP : Keep (Own w' v' (l ++ marks 0) ∧ (∃ k, v'.ownBlock = some k ∧ w.heap.size ≤ k) ∧ Below w.heap.size w w') := ⟨by simpa [marks] using hp.1, hfree.1, HBe.out.trans hfree.2⟩
  clear hp hfree hmk2
  go_wp2
  go_loopw [3, 4] (fun b i wr => ∃ (t : Nat), t ≤ 7 ∧ i = .int .i64 t ∧ Own wr b (l ++ marks t) ∧ (∃ k, b.ownBlock = some k ∧ w.heap.size ≤ k) ∧ Below w.heap.size w wr) (fun _ i _ => 7 - (intOf i).toNat)
  case atStart => exact ⟨0, by omega, rfl, HP.out.1, HP.out.2.1, HP.out.2.2⟩
  case round =>
    rename_i b i wr
    obtain ⟨t, ht, rfl, hO, hk, hBl⟩ := hrel
    by_cases hlt : t < 7
    · have hlt' : (t : Int) < 7 := by omega
      have HO1 := Keep.mk (hO.box (.cells #[.int .u8 (192 + (t : Int))] 5))
      have hlen : Keep ((l ++ marks t).length + [192 + (t : Int)].length ≤ 140737488355328) := ⟨by have := HB.out; simp [marks_len]; omega⟩
      have HK := Keep.mk hk
      have HBl := Keep.mk hBl
      clear hO hk hBl HP
      go_wp2_with (first | (at_builtin; refine wpList_app rfl (.tmp 16) (.tmp 20) rfl _ (.slice (some ⟨wr.heap.size, 0, none⟩) 1 1) (l ++ marks t) [192 + (t : Int)] rfl rfl HO1.out (row_one wr _) hlen.out ?_; intro v2 w2 hp; refine Hid.out ?_))
      refine hid_in ?_
      have hbox := below_new wr (.cells #[.int .u8 (192 + (t : Int))] 5)
      have hfree := grow_free HK.out (Nat.le_trans HBl.out.size hbox.size) hp
      have HN : Keep (Own w2 v2 (l ++ marks (t + 1)) ∧ (∃ k, v2.ownBlock = some k ∧ w.heap.size ≤ k) ∧ Below w.heap.size w w2) :=
        ⟨by rw [marks_next, ← List.append_assoc]; exact hp.1, hfree.1, (HBl.out.trans (hbox.mono HBl.out.size)).trans hfree.2⟩
      clear hp hbox hfree
      go_wp2
      go_roundw
      case rel => exact ⟨t + 1, by omega, by go_num, HN.out.1, HN.out.2.1, HN.out.2.2⟩
      case measure => simp only [intOf]; omega
    · obtain rfl : t = 7 := by omega
      rcases hO.form with ⟨_, e⟩ | ⟨g, cap, cur, rfl, hb, h3, h4, h5, h6⟩
      · have := congrArg List.length e; simp [marks_len] at this
      · have hcap : l.length ≤ cap := by rw [List.length_append, marks_len] at h3; omega
        have hcap' : (l.length : Int) ≤ (cap : Int) := by omega
        have HO1 := Keep.mk hO
        have HBl := Keep.mk hBl
        have HK := Keep.mk hk
        clear hO hBl hb h3 h4 h5 h6 hk HP
        go_wp2
        go_ret
        exact ⟨_, rfl, ⟨g, cap, rfl, HO1.out⟩, HK.out, HBl.out⟩

/-- A row of bytes as a text. -/
theorem conv_row (v : Value) (l : List Int) (w : World) (h : RowAt w v l) : (convert 36 9 v).run Try.prog w = .ok (.string (strOfNums l)) w := by
  rcases h with ⟨rfl, rfl⟩ | ⟨a, c, rfl, rfl⟩ | ⟨b, off, cap, rfl, _, hc⟩
  · rw [run_convert_bytes_nil (P := Try.prog) w 36 5 Try.underlying36 Try.underlying5 0 0 9 Try.underlying9]; rfl
  · rw [run_convert_bytes_string (P := Try.prog) w 36 9 5 _ 0 c Try.underlying36 Try.underlying5 Try.underlying9]
    simp [Conv.bytesToString, loadCells, loadCellsFrom, strOfNums]
    rfl
  · exact run_convert_bytes_arg (P := Try.prog) w 36 5 Try.underlying36 Try.underlying5 b off l.length cap l rfl hc 9 Try.underlying9

set_option maxHeartbeats 1000000 in
theorem kept_any (v vb : Value) (l : List Int) (w : World) (hv : WideAt w v l) (hr : RowAt w vb l) (hb : l.length + 7 ≤ 140737488355328) :
    Calls Try.prog 21 #[v, vb] w fun e w' => e = .returned (.bool true) ∧ w' = w := by
  have hc1 := conv_row v l w hv.row
  have hc2 := conv_row vb l w hr
  obtain ⟨g, cap, rfl, hcap, hm, hcell, _⟩ := hv.cap
  obtain ⟨xa, xc, rfl⟩ := row_form hr
  have HC := Keep.mk hcell
  have hcap' : (l.length : Int) + 7 ≤ (cap : Int) := by omega
  have h7 : ((l.length : Int) + 7).toNat = l.length + 7 := by omega
  have hsm : (l.length : Int) ≤ 9223372036854775000 := by omega
  obtain ⟨s, hs⟩ : ∃ s, Keep (s = strOfNums l) := ⟨_, ⟨rfl⟩⟩
  rw [← hs.out] at hc1 hc2
  clear hv hr hb hcell hm
  go_enter Try.func21, Try.ntmps21
  go_wp2
  go_loop [6] (fun i => ∃ t : Nat, t ≤ 7 ∧ i = .int .i64 t) (fun i => 7 - (intOf i).toNat)
  case atStart => exact ⟨0, by omega, rfl⟩
  case round =>
    obtain ⟨t, ht, rfl⟩ := hrel
    by_cases hlt : t < 7
    · have hlt' : (t : Int) < 7 := by omega
      have cc : w.cell? ⟨g, l.length + t, none⟩ = some (.int .u8 (192 + (t : Int))) := by
        rw [HC.out _ (by omega)]
        simp [List.getD_eq_getElem?_getD, marks, hlt]
      go_wp2
      refine ⟨⟨t + 1, by omega, by go_num⟩, by simp only [intOf]; omega⟩
    · obtain rfl : t = 7 := by omega
      go_wp2
      go_ret
      exact ⟨rfl, rfl⟩

/-- The slice v is full of a mark. -/
def FullAt (w : World) (v : Value) (m : Int) : Prop := ∃ n, RowAt w v (List.replicate n m) ∧ n ≤ 140737488355328
set_option maxHeartbeats 1000000 in
theorem full_any (v : Value) (m : Int) (w : World) (h : FullAt w v m) :
    Calls Try.prog 44 #[v, .int .u8 m] w fun e w' => e = .returned (.bool true) ∧ w' = w := by
  obtain ⟨n, hr, hb⟩ := h
  have hf := row_form hr
  rw [List.length_replicate] at hf
  obtain ⟨xa, xc, rfl⟩ := hf
  have HR := Keep.mk hr
  have hsm : (n : Int) ≤ 9223372036854775000 := by omega
  clear hr hb
  go_enter Try.func44, Try.ntmps44
  go_wp2
  go_loop [5] (fun i => ∃ t : Nat, t ≤ n ∧ i = .int .i64 t) (fun i => n - (intOf i).toNat)
  case atStart => exact ⟨0, by omega, rfl⟩
  case round =>
    obtain ⟨t, ht, rfl⟩ := hrel
    by_cases hlt : t < n
    · have hlt' : (t : Int) < (n : Int) := by omega
      rcases HR.out with ⟨e1, e2⟩ | ⟨_, _, e1, e2⟩ | ⟨b, off, cap, e1, hcap, hc⟩
      · have := congrArg List.length e2; simp at this; omega
      · have := congrArg List.length e2; simp at this; omega
      · injection e1 with e1 e2 e3
        subst e1
        have cc : w.cell? ⟨b, off + t, none⟩ = some (.int .u8 m) := by
          rw [hc t (by simpa using hlt)]
          simp [List.getD_eq_getElem?_getD, hlt]
        clear hc e2 e3
        go_wp2
        refine ⟨⟨t + 1, by omega, by go_num⟩, by simp only [intOf]; omega⟩
    · obtain rfl : t = n := by omega
      have hlt' : ¬ ((t : Int) < (t : Int)) := by omega
      go_wp2
      go_ret
      exact ⟨rfl, rfl⟩
end Go.Proofs.Ytanmbbckkfkhpaa
