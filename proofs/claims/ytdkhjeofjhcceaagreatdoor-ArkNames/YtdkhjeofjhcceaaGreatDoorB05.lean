import Derived.Test.YtdkhjeofjhcceaaGreatDoorB04
import Derived.ArgAppend
import Derived.Lib.ConvBytes
import Derived.Lib.Strings
import Derived.Lib.Slices
import Derived.Lib.Small
import Derived.Lib.Walk
import Derived.Lib.BitFns
import Derived.Deep.RegionWith
import Derived.Maps.Own
namespace Go.Proofs.YtdkhjeofjhcceaaGreatDoor.Nd
open Go.RowKit

def marks (t : Nat) : List Int := (List.range t).map fun i : Nat => 192 + (i : Int)
theorem marks_len (t : Nat) : (marks t).length = t := by simp [marks]
def WideAt (w : World) (v : Value) (l : List Int) : Prop :=
  ∃ g cap, v = .slice (some ⟨g, 0, none⟩) l.length cap ∧ Own w (.slice (some ⟨g, 0, none⟩) (l ++ marks 7).length cap) (l ++ marks 7)
theorem WideAt.cap {w : World} {v : Value} {l : List Int} (h : WideAt w v l) : ∃ g cap, v = .slice (some ⟨g, 0, none⟩) l.length cap ∧ l.length + 7 ≤ cap ∧ cap ≤ maxLen ∧ (∀ i, i < l.length + 7 → w.cell? ⟨g, i, none⟩ = some (.int .u8 ((l ++ marks 7).getD i 0))) ∧ ∃ cur, Blk w g 5 cur ∧ cur.size = cap := by
  obtain ⟨g, cap, rfl, h2⟩ := h
  rcases h2.form with ⟨e, _⟩ | ⟨g', cap', cur, e, hb, h3, h4, h5, h6⟩
  · cases e
  · injection e with e1 e2 e3
    injection e1 with e1
    injection e1 with e1
    subst e1 e3
    refine ⟨g, cap, rfl, by rw [List.length_append, marks_len] at h3; exact h3, h4, fun i hi => ?_, cur, hb, h5⟩
    rw [World.ownsRow.cellAt h2 i (by rw [List.length_append, marks_len]; omega), bv_get _ _ (by rw [List.length_append, marks_len]; omega)]
theorem WideAt.row {w : World} {v : Value} {l : List Int} (h : WideAt w v l) : RowAt w v l := by
  obtain ⟨g, cap, rfl, h1, _, h2, _⟩ := h.cap
  refine .inr (.inr ⟨g, 0, cap, rfl, by omega, fun i hi => ?_⟩)
  rw [Nat.zero_add, h2 i (by omega)]
  simp [List.getD_eq_getElem?_getD, List.getElem?_append, hi]
theorem WideAt.grown {w w' : World} {v : Value} {l : List Int} {S : Nat → Prop} (h : WideAt w v l) (hg : Grown w w' S) (hs : ∀ k, v.ownBlock = some k → ¬ S k) : WideAt w' v l := by
  obtain ⟨g, cap, rfl, h2⟩ := h
  exact ⟨g, cap, rfl, h2.grown hg fun k hk => hs k hk⟩


theorem conv_row (v : Value) (l : List Int) (w : World) (h : RowAt w v l) : (convert 32 9 v).run Tryz.prog w = .ok (.string (strOfNums l)) w := by
  rcases h with ⟨rfl, rfl⟩ | ⟨a, c, rfl, rfl⟩ | ⟨b, off, cap, rfl, _, hc⟩
  · rw [run_convert_bytes_nil (P := Tryz.prog) w 32 5 Tryz.underlying32 Tryz.underlying5 0 0 9 Tryz.underlying9]; rfl
  · rw [run_convert_bytes_string (P := Tryz.prog) w 32 9 5 _ 0 c Tryz.underlying32 Tryz.underlying5 Tryz.underlying9]
    simp [Conv.bytesToString, loadCells, loadCellsFrom, strOfNums]
    rfl
  · exact run_convert_bytes_arg (P := Tryz.prog) w 32 5 Tryz.underlying32 Tryz.underlying5 b off l.length cap l rfl hc 9 Tryz.underlying9

end Go.Proofs.YtdkhjeofjhcceaaGreatDoor.Nd
namespace Go.Proofs.YtdkhjeofjhcceaaGreatDoor.Nd
open Go.RowKit

def Typ (w : World) (k : Nat) (T : TypeId) : Prop := ∃ cs fz, w.heap[k]? = some (.cells cs T fz)
theorem Blk.typ {w : World} {k : Nat} {T : TypeId} {cs : Array Value} (h : Blk w k T cs) : Typ w k T := ⟨cs, _, h⟩
theorem Typ.lt {w : World} {k : Nat} {T : TypeId} (h : Typ w k T) : k < w.heap.size := by
  obtain ⟨cs, fz, h⟩ := h
  exact (Array.getElem?_eq_some_iff.1 h).1
theorem Typ.one {w : World} {k : Nat} {T T' : TypeId} (h : Typ w k T) (h' : Typ w k T') : T = T' := by
  obtain ⟨cs, fz, h⟩ := h
  obtain ⟨cs', fz', h'⟩ := h'
  rw [h] at h'; simp at h'; exact h'.2.1
theorem Typ.ne {w : World} {k k' : Nat} {T T' : TypeId} (h : Typ w k T) (h' : Typ w k' T') (ht : T ≠ T') : k ≠ k' := by
  rintro rfl; exact ht (h.one h')
theorem Grown.typ {a b : World} {S : Nat → Prop} (h : Grown a b S) {k : Nat} {T : TypeId} (hk : Typ a k T) (hs : ¬ S k) : Typ b k T := by
  have hlt := hk.lt
  obtain ⟨cs, fz, h1⟩ := hk
  exact ⟨cs, fz, by rw [h.block k hlt hs]; exact h1⟩
theorem Own.typ {w : World} {v : Value} {l : List Int} (h : Own w v l) {k : Nat} (hk : v.ownBlock = some k) : Typ w k 5 := by
  rcases h.2 with ⟨rfl, _⟩ | ⟨g, cap, cur, rfl, _, h3, _⟩
  · simp [Value.ownBlock] at hk
  · simp [Value.ownBlock] at hk
    subst hk
    exact ⟨cur, _, h3⟩

def OwnT (w : World) (v : Value) (l : List Int) : Prop :=
  (v = .slice none 0 0 ∧ l = []) ∨ ∃ g cap cur fz, v = .slice (some ⟨g, 0, none⟩) l.length cap ∧ w.heap[g]? = some (.cells cur 5 fz) ∧ (fz = (0, 0) ∨ cap ≤ fz.1) ∧ l.length ≤ cap ∧ cap ≤ maxLen ∧ cur.size = cap ∧ cur.toList.take l.length = bv l
theorem OwnT.typ {w : World} {v : Value} {l : List Int} (h : OwnT w v l) {k : Nat} (hk : v.ownBlock = some k) : Typ w k 5 := by
  rcases h with ⟨rfl, _⟩ | ⟨g, cap, cur, fz, rfl, h3, _⟩
  · simp [Value.ownBlock] at hk
  · simp [Value.ownBlock] at hk
    subst hk
    exact ⟨cur, _, h3⟩
theorem OwnT.lt {w : World} {v : Value} {l : List Int} (h : OwnT w v l) : ∀ k, v.ownBlock = some k → k < w.heap.size := fun _ hk => (h.typ hk).lt
theorem OwnT.ne {w : World} {v : Value} {l : List Int} {p : Nat} {T : TypeId} {cs : Array Value} (h : OwnT w v l) (hp : Blk w p T cs) (hT : T ≠ 5) : v.ownBlock ≠ some p := fun e => hT (hp.typ.one (h.typ e))
theorem OwnT.grown {w w' : World} {v : Value} {l : List Int} {S : Nat → Prop} (h : OwnT w v l) (hg : Grown w w' S) (hs : ∀ k, v.ownBlock = some k → ¬ S k) : OwnT w' v l := by
  rcases h with h1 | ⟨g, cap, cur, fz, rfl, h3, h4⟩
  · exact .inl h1
  · exact .inr ⟨g, cap, cur, fz, rfl, by rw [hg.block g (Array.getElem?_eq_some_iff.1 h3).1 (hs g rfl)]; exact h3, h4⟩
theorem OwnT.box {w : World} {v : Value} {l : List Int} (h : OwnT w v l) (o : Obj) : OwnT (w.alloc o) v l := h.grown (Grown.alloc w o fun _ => False) fun _ _ h => h
theorem take_get {cur : Array Value} {l : List Int} {n : Nat} (h : cur.toList.take n = bv l) (hl : l.length = n) (t : Nat) (ht : t < n) : cur[t]? = some (.int .u8 (l.getD t 0)) := by
  have h1 := bv_get l t (by omega)
  rw [← h, List.getElem?_take, if_pos ht] at h1
  simpa using h1
theorem OwnT.cells {w : World} {g n cap : Nat} {l : List Int} (h : OwnT w (.slice (some ⟨g, 0, none⟩) n cap) l) (t : Nat) (ht : t < l.length) : w.cell? ⟨g, t, none⟩ = some (.int .u8 (l.getD t 0)) ∧ w.frozen? ⟨g, t, none⟩ = false := by
  rcases h with ⟨e, _⟩ | ⟨g', cap', cur, fz, e, hb, hf, h3, h4, h5, h6⟩
  · cases e
  · injection e with e1 e2 e3
    injection e1 with e1
    injection e1 with e1
    subst e1 e2 e3
    refine ⟨by rw [cell_of_row w g t cur 5 fz hb]; exact take_get h6 rfl t ht, ?_⟩
    rcases hf with rfl | hf
    · simp [World.frozen?, hb]
    · simp only [World.frozen?, hb]
      simp
      omega
theorem OwnT.row {w : World} {v : Value} {l : List Int} (h : OwnT w v l) : RowAt w v l := by
  have h' := h
  rcases h with h1 | ⟨g, cap, cur, fz, rfl, hb, hf, h3, h4, h5, h6⟩
  · exact .inl h1
  · exact .inr (.inr ⟨g, 0, cap, rfl, h3, fun i hi => by rw [Nat.zero_add]; exact (h'.cells i hi).1⟩)
theorem OwnT.sl {w : World} {v : Value} {l : List Int} (h : OwnT w v l) : ∃ a n c, v = .slice a n c := by
  rcases h with ⟨rfl, _⟩ | ⟨g, cap, cur, fz, rfl, _⟩
  · exact ⟨_, _, _, rfl⟩
  · exact ⟨_, _, _, rfl⟩
theorem bv_set (l : List Int) (t : Nat) (c : Int) : (bv l).set t (.int .u8 c) = bv (l.set t c) := by simp [bv, List.map_set]
theorem OwnT.set {w : World} {g n cap : Nat} {l : List Int} (h : OwnT w (.slice (some ⟨g, 0, none⟩) n cap) l) (t : Nat) (c : Int) : OwnT (w.setCell ⟨g, t, none⟩ (.int .u8 c)) (.slice (some ⟨g, 0, none⟩) n cap) (l.set t c) := by
  rcases h with ⟨e, _⟩ | ⟨g', cap', cur, fz, e, hb, hf, h3, h4, h5, h6⟩
  · cases e
  · injection e with e1 e2 e3
    injection e1 with e1
    injection e1 with e1
    subst e1 e2 e3
    refine .inr ⟨g, cap, cur.setIfInBounds t (.int .u8 c), fz, by rw [List.length_set], ?_, hf, by rw [List.length_set]; exact h3, h4, by simp [h5], ?_⟩
    · rw [setCell_eq_setRow w g t cur 5 fz _ hb]; exact setRow_heap w g cur _ 5 fz hb
    · rw [Array.toList_setIfInBounds, List.length_set, List.take_set, h6, bv_set]
def AppPostT (w : World) (v : Value) (l : List Int) (v' : Value) (w' : World) : Prop :=
  OwnT w' v' l ∧ ((v'.ownBlock = v.ownBlock ∧ Grown w w' fun k => v.ownBlock = some k) ∨ (v'.ownBlock = some w.heap.size ∧ Below w.heap.size w w'))
theorem AppPostT.grown {w w' : World} {v v' : Value} {l : List Int} (h : AppPostT w v l v' w') : Grown w w' fun k => v.ownBlock = some k := by
  rcases h.2 with h | h
  · exact h.2
  · exact Grown.below h.2

end Go.Proofs.YtdkhjeofjhcceaaGreatDoor.Nd
namespace Go.Proofs.YtdkhjeofjhcceaaGreatDoor.Nd
open Go.RowKit

def bp : Option Nat → Value
  | none => .pointer none
  | some q => ptr q
structure InAt (w : World) (p : Nat) (s : ByteArray) (a : Nat) (bad : Option Nat) : Prop where
  blk : Blk w p 136 #[.string s, .int .i64 (a : Int), bp bad]
  le : a ≤ s.size
def BadAt (w : World) (q : Nat) (why : Int) (a : Nat) : Prop := Blk w q 123 #[.int .i64 why, .int .i64 (a : Int)]
def err (q : Nat) : Value := .iface 121 (ptr q)

set_option maxRecDepth 8000 in
set_option maxHeartbeats 400000 in
theorem ileft_any (p : Nat) (s : ByteArray) (a : Nat) (bad : Option Nat) (w : World) (h : InAt w p s a bad) (hb : s.size ≤ 140737488355328) :
    Calls Tryz.prog 78 #[ptr p] w fun e w' => e = .returned (.int .i64 ((s.size : Int) - a)) ∧ ∃ q, w' = w.drewN q := by
  have c0 : w.cell? ⟨p, 0, none⟩ = some (.string s) := by rw [h.blk.cell]; rfl
  have c1 : w.cell? ⟨p, 1, none⟩ = some (.int .i64 (a : Int)) := by rw [h.blk.cell]; rfl
  have hle := h.le
  have h1 : (a : Int) ≤ (s.size : Int) := by omega
  have h2 : (s.size : Int) ≤ 140737488355328 := by omega
  clear h hb hle
  go_enter Tryz.func78, Tryz.ntmps78
  go_wp2
  go_quiet (fail)
  go_wp2
  go_ret
  exact ⟨rfl, nq, rfl⟩

set_option maxRecDepth 8000 in
set_option maxHeartbeats 400000 in
theorem iat_any (p : Nat) (s : ByteArray) (a : Nat) (bad : Option Nat) (w : World) (h : InAt w p s a bad) :
    Calls Tryz.prog 69 #[ptr p] w fun e w' => e = .returned (.int .i64 (a : Int)) ∧ w' = w := by
  have c1 : w.cell? ⟨p, 1, none⟩ = some (.int .i64 (a : Int)) := by rw [h.blk.cell]; rfl
  clear h
  go_enter Tryz.func69, Tryz.ntmps69
  go_wp2
  go_ret
  exact ⟨rfl, rfl⟩

set_option maxRecDepth 8000 in
set_option maxHeartbeats 400000 in
theorem ifail_any (p : Nat) (s : ByteArray) (a : Nat) (why : Int) (w : World) (h : InAt w p s a none) :
    Calls Tryz.prog 73 #[ptr p, .int .i64 why] w fun e w' => e = .returned (err w.heap.size) ∧ InAt w' p s a (some w.heap.size) ∧ BadAt w' w.heap.size why a ∧ Grown w w' fun k => k = p := by
  have HI := Keep.mk h
  have c1 : w.cell? ⟨p, 1, none⟩ = some (.int .i64 (a : Int)) := by rw [h.blk.cell]; rfl
  have hlt := h.blk.lt
  have hne : p ≠ w.heap.size := by omega
  have hb1 := (h.blk.alloc (.cells #[.int .i64 why, .int .i64 (a : Int)] 123))
  have HB := Keep.mk hb1
  have HN := Keep.mk (Blk.new w 123 #[.int .i64 why, .int .i64 (a : Int)])
  have HG := Keep.mk (Grown.alloc w (.cells #[.int .i64 why, .int .i64 (a : Int)] 123) fun k => k = p)
  have HL := Keep.mk h.le
  clear h hb1 
  go_enter Tryz.func73, Tryz.ntmps73
  go_wp2_with (first | (refine wpList_boxA rfl 123 (.tmp 11) rfl _ rfl ?_; refine Hid.out ?_))
  refine hid_in ?_
  generalize w.alloc (.cells #[.int .i64 why, .int .i64 (a : Int)] 123) = w1 at *
  have c2 : w1.cell? ⟨p, 2, none⟩ = some (.pointer none) := by rw [HB.out.cell]; rfl
  have f2 := HB.out.frozen 2
  clear c1
  go_wp2
  go_ret
  exact ⟨rfl, ⟨HB.out.set 2 _, HL.out⟩, HN.out.set_ne (fun e => hne e.symm) _, HG.out.trans (Grown.setCell w1 p 2 _ fun _ => rfl)⟩
end Go.Proofs.YtdkhjeofjhcceaaGreatDoor.Nd
namespace Go.Proofs.YtdkhjeofjhcceaaGreatDoor.Nd
open Go.RowKit

theorem lst_get (s : ByteArray) (t : Nat) (h : t < s.size) : (lst s).drop t = (s[t].toNat : Int) :: (lst s).drop (t + 1) := by
  have h' : t < (lst s).length := by rw [lst_len]; exact h
  rw [List.drop_eq_getElem_cons h']
  congr 1
  simp [lst]
  rfl

set_option maxRecDepth 8000 in
set_option maxHeartbeats 4000000 in
theorem first_any (s : ByteArray) (w : World) (hb : s.size ≤ 140737488355328) :
    Calls Tryz.prog 72 #[.string s] w fun e w' => e = .returned (.tuple #[.int .u64 (fstG (lst s) 0 0).1, .int .i64 (fstG (lst s) 0 0).2.1, .int .i64 (fstG (lst s) 0 0).2.2]) ∧ w' = w := by
  have hsm : (s.size : Int) ≤ 140737488355328 := by omega
  have HB := Keep.mk (lst_byts s)
  clear hb
  go_enter Tryz.func72, Tryz.ntmps72
  go_wp2
  go_loop [5, 6] (fun x i => ∃ (t : Nat) (y : Int), t ≤ 9 ∧ t ≤ s.size ∧ x = .int .u64 y ∧ i = .int .i64 t ∧ Keep (fstG ((lst s).drop t) t y = fstG (lst s) 0 0) ∧ Keep (0 ≤ y ∧ y < 2 ^ (7 * t))) (fun _ i => 10 - (intOf i).toNat)
  case atStart => exact ⟨0, 0, by omega, by omega, rfl, rfl, ⟨by simp⟩, ⟨by simp⟩⟩
  case round =>
    obtain ⟨t, y, ht, hts, rfl, rfl, hF, hy⟩ := hrel
    by_cases hlt : t < s.size
    · have hlt' : (t : Int) < (s.size : Int) := by omega
      obtain ⟨c, hc⟩ : ∃ c : Int, Keep ((s[t].toNat : Int) = c) := ⟨_, ⟨rfl⟩⟩
      have hc1 := hc.out
      have hcb := s[t].toNat_lt
      have hc0 : 0 ≤ c := by omega
      have hc2 : c < 256 := by omega
      have hg := lst_get s t hlt
      rw [hc1] at hg
      have HG := Keep.mk hg
      clear hg hcb
      rcases (by omega : t = 0 ∨ t = 1 ∨ t = 2 ∨ t = 3 ∨ t = 4 ∨ t = 5 ∨ t = 6 ∨ t = 7 ∨ t = 8 ∨ t = 9) with rfl | rfl | rfl | rfl | rfl | rfl | rfl | rfl | rfl | rfl
      · have e7 : (2 : Int) ^ (7 * 0) = 1 := by decide
        by_cases h0 : c = 0
        · have hr : fstG (lst s) 0 0 = (y + c % 128 * 2 ^ (7 * 0), ((0 : Nat) : Int) + 1, 0) := by rw [← hF.out, HG.out, fstG, if_neg (by omega), if_neg (by omega), if_pos (by omega)]
          have hz := Keep.mk e7
          clear HG hc e7
          subst h0
          have HR := Keep.mk hr
          clear hr
          go_wp2
          go_ret3
          refine ⟨?_, rfl⟩
          rw [HR.out]
          refine congrArg (fun z => Ending.returned (Value.tuple #[Value.int .u64 z, Value.int .i64 1, Value.int .i64 0])) ?_
          have hyb := hy.out
          rw [hz.out] at hyb ⊢
          first | omega | (rw [IntKind.wrap_u64]; omega)
        have hc3 : (c == 0) = false := by simpa using h0
        by_cases h1 : c < 128
        · have hr : fstG (lst s) 0 0 = (y + c % 128 * 2 ^ (7 * 0), ((0 : Nat) : Int) + 1, 0) := by rw [← hF.out, HG.out, fstG, if_neg (by omega), if_neg (by omega), if_pos (by omega)]
          have hz := Keep.mk e7
          clear e7
          have HR := Keep.mk hr
          clear hr
          go_wp2
          go_ret3
          refine ⟨?_, rfl⟩
          rw [HR.out]
          refine congrArg (fun z => Ending.returned (Value.tuple #[Value.int .u64 z, Value.int .i64 1, Value.int .i64 0])) ?_
          have hyb := hy.out
          rw [hz.out] at hyb ⊢
          first | omega | (rw [IntKind.wrap_u64]; omega)
        have hr : fstG ((lst s).drop 1) (0+1) (y + c % 128 * 2 ^ (7 * 0)) = fstG (lst s) 0 0 := by rw [← hF.out, HG.out, fstG, if_neg (by omega), if_neg (by omega), if_neg h1]
        have HR := Keep.mk hr
        have hz := Keep.mk e7
        have hz2 : Keep ((2 : Int) ^ (7 * 1) = 128) := ⟨by decide⟩
        clear hr e7
        go_wp2
        refine ⟨⟨1, y + c % 128 * 2 ^ (7 * 0), by omega, by omega, ?_, rfl, ⟨HR.out⟩, ⟨?_⟩⟩, by simp [intOf]⟩
        · have hyb := hy.out
          rw [hz.out] at hyb ⊢
          refine congrArg (Value.int .u64) ?_
          first | omega | (rw [IntKind.wrap_u64]; omega)
        · have hyb := hy.out
          rw [hz.out] at hyb ⊢
          rw [hz2.out]
          omega
      · have e7 : (2 : Int) ^ (7 * 1) = 128 := by decide
        by_cases h0 : c = 0
        · have hr : fstG (lst s) 0 0 = (0, 0, 21) := by rw [← hF.out, HG.out, fstG, if_neg (by omega), if_pos ⟨h0, by omega⟩]
          clear HG hc
          subst h0
          clear e7
          have HR := Keep.mk hr
          clear hr
          go_wp2
          go_ret3
          refine ⟨?_, rfl⟩
          rw [HR.out]
          rfl
        by_cases h1 : c < 128
        · have hr : fstG (lst s) 0 0 = (y + c % 128 * 2 ^ (7 * 1), ((1 : Nat) : Int) + 1, 0) := by rw [← hF.out, HG.out, fstG, if_neg (by omega), if_neg (by omega), if_pos h1]
          have hz := Keep.mk e7
          clear e7
          have hc3 : (c == 0) = false := by simpa using h0
          have HR := Keep.mk hr
          clear hr
          go_wp2
          go_ret3
          refine ⟨?_, rfl⟩
          rw [HR.out]
          refine congrArg (fun z => Ending.returned (Value.tuple #[Value.int .u64 z, Value.int .i64 2, Value.int .i64 0])) ?_
          have hyb := hy.out
          rw [hz.out] at hyb ⊢
          first | omega | (rw [IntKind.wrap_u64]; omega)
        have hr : fstG ((lst s).drop 2) (1+1) (y + c % 128 * 2 ^ (7 * 1)) = fstG (lst s) 0 0 := by rw [← hF.out, HG.out, fstG, if_neg (by omega), if_neg (by omega), if_neg h1]
        have HR := Keep.mk hr
        have hz := Keep.mk e7
        have hz2 : Keep ((2 : Int) ^ (7 * 2) = 16384) := ⟨by decide⟩
        clear hr e7
        have hc3 : (c == 0) = false := by simpa using h0
        go_wp2
        refine ⟨⟨2, y + c % 128 * 2 ^ (7 * 1), by omega, by omega, ?_, rfl, ⟨HR.out⟩, ⟨?_⟩⟩, by simp [intOf]⟩
        · have hyb := hy.out
          rw [hz.out] at hyb ⊢
          refine congrArg (Value.int .u64) ?_
          first | omega | (rw [IntKind.wrap_u64]; omega)
        · have hyb := hy.out
          rw [hz.out] at hyb ⊢
          rw [hz2.out]
          omega
      · have e7 : (2 : Int) ^ (7 * 2) = 16384 := by decide
        by_cases h0 : c = 0
        · have hr : fstG (lst s) 0 0 = (0, 0, 21) := by rw [← hF.out, HG.out, fstG, if_neg (by omega), if_pos ⟨h0, by omega⟩]
          clear HG hc
          subst h0
          clear e7
          have HR := Keep.mk hr
          clear hr
          go_wp2
          go_ret3
          refine ⟨?_, rfl⟩
          rw [HR.out]
          rfl
        by_cases h1 : c < 128
        · have hr : fstG (lst s) 0 0 = (y + c % 128 * 2 ^ (7 * 2), ((2 : Nat) : Int) + 1, 0) := by rw [← hF.out, HG.out, fstG, if_neg (by omega), if_neg (by omega), if_pos h1]
          have hz := Keep.mk e7
          clear e7
          have hc3 : (c == 0) = false := by simpa using h0
          have HR := Keep.mk hr
          clear hr
          go_wp2
          go_ret3
          refine ⟨?_, rfl⟩
          rw [HR.out]
          refine congrArg (fun z => Ending.returned (Value.tuple #[Value.int .u64 z, Value.int .i64 3, Value.int .i64 0])) ?_
          have hyb := hy.out
          rw [hz.out] at hyb ⊢
          first | omega | (rw [IntKind.wrap_u64]; omega)
        have hr : fstG ((lst s).drop 3) (2+1) (y + c % 128 * 2 ^ (7 * 2)) = fstG (lst s) 0 0 := by rw [← hF.out, HG.out, fstG, if_neg (by omega), if_neg (by omega), if_neg h1]
        have HR := Keep.mk hr
        have hz := Keep.mk e7
        have hz2 : Keep ((2 : Int) ^ (7 * 3) = 2097152) := ⟨by decide⟩
        clear hr e7
        have hc3 : (c == 0) = false := by simpa using h0
        go_wp2
        refine ⟨⟨3, y + c % 128 * 2 ^ (7 * 2), by omega, by omega, ?_, rfl, ⟨HR.out⟩, ⟨?_⟩⟩, by simp [intOf]⟩
        · have hyb := hy.out
          rw [hz.out] at hyb ⊢
          refine congrArg (Value.int .u64) ?_
          first | omega | (rw [IntKind.wrap_u64]; omega)
        · have hyb := hy.out
          rw [hz.out] at hyb ⊢
          rw [hz2.out]
          omega
      · have e7 : (2 : Int) ^ (7 * 3) = 2097152 := by decide
        by_cases h0 : c = 0
        · have hr : fstG (lst s) 0 0 = (0, 0, 21) := by rw [← hF.out, HG.out, fstG, if_neg (by omega), if_pos ⟨h0, by omega⟩]
          clear HG hc
          subst h0
          clear e7
          have HR := Keep.mk hr
          clear hr
          go_wp2
          go_ret3
          refine ⟨?_, rfl⟩
          rw [HR.out]
          rfl
        by_cases h1 : c < 128
        · have hr : fstG (lst s) 0 0 = (y + c % 128 * 2 ^ (7 * 3), ((3 : Nat) : Int) + 1, 0) := by rw [← hF.out, HG.out, fstG, if_neg (by omega), if_neg (by omega), if_pos h1]
          have hz := Keep.mk e7
          clear e7
          have hc3 : (c == 0) = false := by simpa using h0
          have HR := Keep.mk hr
          clear hr
          go_wp2
          go_ret3
          refine ⟨?_, rfl⟩
          rw [HR.out]
          refine congrArg (fun z => Ending.returned (Value.tuple #[Value.int .u64 z, Value.int .i64 4, Value.int .i64 0])) ?_
          have hyb := hy.out
          rw [hz.out] at hyb ⊢
          first | omega | (rw [IntKind.wrap_u64]; omega)
        have hr : fstG ((lst s).drop 4) (3+1) (y + c % 128 * 2 ^ (7 * 3)) = fstG (lst s) 0 0 := by rw [← hF.out, HG.out, fstG, if_neg (by omega), if_neg (by omega), if_neg h1]
        have HR := Keep.mk hr
        have hz := Keep.mk e7
        have hz2 : Keep ((2 : Int) ^ (7 * 4) = 268435456) := ⟨by decide⟩
        clear hr e7
        have hc3 : (c == 0) = false := by simpa using h0
        go_wp2
        refine ⟨⟨4, y + c % 128 * 2 ^ (7 * 3), by omega, by omega, ?_, rfl, ⟨HR.out⟩, ⟨?_⟩⟩, by simp [intOf]⟩
        · have hyb := hy.out
          rw [hz.out] at hyb ⊢
          refine congrArg (Value.int .u64) ?_
          first | omega | (rw [IntKind.wrap_u64]; omega)
        · have hyb := hy.out
          rw [hz.out] at hyb ⊢
          rw [hz2.out]
          omega
      · have e7 : (2 : Int) ^ (7 * 4) = 268435456 := by decide
        by_cases h0 : c = 0
        · have hr : fstG (lst s) 0 0 = (0, 0, 21) := by rw [← hF.out, HG.out, fstG, if_neg (by omega), if_pos ⟨h0, by omega⟩]
          clear HG hc
          subst h0
          clear e7
          have HR := Keep.mk hr
          clear hr
          go_wp2
          go_ret3
          refine ⟨?_, rfl⟩
          rw [HR.out]
          rfl
        by_cases h1 : c < 128
        · have hr : fstG (lst s) 0 0 = (y + c % 128 * 2 ^ (7 * 4), ((4 : Nat) : Int) + 1, 0) := by rw [← hF.out, HG.out, fstG, if_neg (by omega), if_neg (by omega), if_pos h1]
          have hz := Keep.mk e7
          clear e7
          have hc3 : (c == 0) = false := by simpa using h0
          have HR := Keep.mk hr
          clear hr
          go_wp2
          go_ret3
          refine ⟨?_, rfl⟩
          rw [HR.out]
          refine congrArg (fun z => Ending.returned (Value.tuple #[Value.int .u64 z, Value.int .i64 5, Value.int .i64 0])) ?_
          have hyb := hy.out
          rw [hz.out] at hyb ⊢
          first | omega | (rw [IntKind.wrap_u64]; omega)
        have hr : fstG ((lst s).drop 5) (4+1) (y + c % 128 * 2 ^ (7 * 4)) = fstG (lst s) 0 0 := by rw [← hF.out, HG.out, fstG, if_neg (by omega), if_neg (by omega), if_neg h1]
        have HR := Keep.mk hr
        have hz := Keep.mk e7
        have hz2 : Keep ((2 : Int) ^ (7 * 5) = 34359738368) := ⟨by decide⟩
        clear hr e7
        have hc3 : (c == 0) = false := by simpa using h0
        go_wp2
        refine ⟨⟨5, y + c % 128 * 2 ^ (7 * 4), by omega, by omega, ?_, rfl, ⟨HR.out⟩, ⟨?_⟩⟩, by simp [intOf]⟩
        · have hyb := hy.out
          rw [hz.out] at hyb ⊢
          refine congrArg (Value.int .u64) ?_
          first | omega | (rw [IntKind.wrap_u64]; omega)
        · have hyb := hy.out
          rw [hz.out] at hyb ⊢
          rw [hz2.out]
          omega
      · have e7 : (2 : Int) ^ (7 * 5) = 34359738368 := by decide
        by_cases h0 : c = 0
        · have hr : fstG (lst s) 0 0 = (0, 0, 21) := by rw [← hF.out, HG.out, fstG, if_neg (by omega), if_pos ⟨h0, by omega⟩]
          clear HG hc
          subst h0
          clear e7
          have HR := Keep.mk hr
          clear hr
          go_wp2
          go_ret3
          refine ⟨?_, rfl⟩
          rw [HR.out]
          rfl
        by_cases h1 : c < 128
        · have hr : fstG (lst s) 0 0 = (y + c % 128 * 2 ^ (7 * 5), ((5 : Nat) : Int) + 1, 0) := by rw [← hF.out, HG.out, fstG, if_neg (by omega), if_neg (by omega), if_pos h1]
          have hz := Keep.mk e7
          clear e7
          have hc3 : (c == 0) = false := by simpa using h0
          have HR := Keep.mk hr
          clear hr
          go_wp2
          go_ret3
          refine ⟨?_, rfl⟩
          rw [HR.out]
          refine congrArg (fun z => Ending.returned (Value.tuple #[Value.int .u64 z, Value.int .i64 6, Value.int .i64 0])) ?_
          have hyb := hy.out
          rw [hz.out] at hyb ⊢
          first | omega | (rw [IntKind.wrap_u64]; omega)
        have hr : fstG ((lst s).drop 6) (5+1) (y + c % 128 * 2 ^ (7 * 5)) = fstG (lst s) 0 0 := by rw [← hF.out, HG.out, fstG, if_neg (by omega), if_neg (by omega), if_neg h1]
        have HR := Keep.mk hr
        have hz := Keep.mk e7
        have hz2 : Keep ((2 : Int) ^ (7 * 6) = 4398046511104) := ⟨by decide⟩
        clear hr e7
        have hc3 : (c == 0) = false := by simpa using h0
        go_wp2
        refine ⟨⟨6, y + c % 128 * 2 ^ (7 * 5), by omega, by omega, ?_, rfl, ⟨HR.out⟩, ⟨?_⟩⟩, by simp [intOf]⟩
        · have hyb := hy.out
          rw [hz.out] at hyb ⊢
          refine congrArg (Value.int .u64) ?_
          first | omega | (rw [IntKind.wrap_u64]; omega)
        · have hyb := hy.out
          rw [hz.out] at hyb ⊢
          rw [hz2.out]
          omega
      · have e7 : (2 : Int) ^ (7 * 6) = 4398046511104 := by decide
        by_cases h0 : c = 0
        · have hr : fstG (lst s) 0 0 = (0, 0, 21) := by rw [← hF.out, HG.out, fstG, if_neg (by omega), if_pos ⟨h0, by omega⟩]
          clear HG hc
          subst h0
          clear e7
          have HR := Keep.mk hr
          clear hr
          go_wp2
          go_ret3
          refine ⟨?_, rfl⟩
          rw [HR.out]
          rfl
        by_cases h1 : c < 128
        · have hr : fstG (lst s) 0 0 = (y + c % 128 * 2 ^ (7 * 6), ((6 : Nat) : Int) + 1, 0) := by rw [← hF.out, HG.out, fstG, if_neg (by omega), if_neg (by omega), if_pos h1]
          have hz := Keep.mk e7
          clear e7
          have hc3 : (c == 0) = false := by simpa using h0
          have HR := Keep.mk hr
          clear hr
          go_wp2
          go_ret3
          refine ⟨?_, rfl⟩
          rw [HR.out]
          refine congrArg (fun z => Ending.returned (Value.tuple #[Value.int .u64 z, Value.int .i64 7, Value.int .i64 0])) ?_
          have hyb := hy.out
          rw [hz.out] at hyb ⊢
          first | omega | (rw [IntKind.wrap_u64]; omega)
        have hr : fstG ((lst s).drop 7) (6+1) (y + c % 128 * 2 ^ (7 * 6)) = fstG (lst s) 0 0 := by rw [← hF.out, HG.out, fstG, if_neg (by omega), if_neg (by omega), if_neg h1]
        have HR := Keep.mk hr
        have hz := Keep.mk e7
        have hz2 : Keep ((2 : Int) ^ (7 * 7) = 562949953421312) := ⟨by decide⟩
        clear hr e7
        have hc3 : (c == 0) = false := by simpa using h0
        go_wp2
        refine ⟨⟨7, y + c % 128 * 2 ^ (7 * 6), by omega, by omega, ?_, rfl, ⟨HR.out⟩, ⟨?_⟩⟩, by simp [intOf]⟩
        · have hyb := hy.out
          rw [hz.out] at hyb ⊢
          refine congrArg (Value.int .u64) ?_
          first | omega | (rw [IntKind.wrap_u64]; omega)
        · have hyb := hy.out
          rw [hz.out] at hyb ⊢
          rw [hz2.out]
          omega
      · have e7 : (2 : Int) ^ (7 * 7) = 562949953421312 := by decide
        by_cases h0 : c = 0
        · have hr : fstG (lst s) 0 0 = (0, 0, 21) := by rw [← hF.out, HG.out, fstG, if_neg (by omega), if_pos ⟨h0, by omega⟩]
          clear HG hc
          subst h0
          clear e7
          have HR := Keep.mk hr
          clear hr
          go_wp2
          go_ret3
          refine ⟨?_, rfl⟩
          rw [HR.out]
          rfl
        by_cases h1 : c < 128
        · have hr : fstG (lst s) 0 0 = (y + c % 128 * 2 ^ (7 * 7), ((7 : Nat) : Int) + 1, 0) := by rw [← hF.out, HG.out, fstG, if_neg (by omega), if_neg (by omega), if_pos h1]
          have hz := Keep.mk e7
          clear e7
          have hc3 : (c == 0) = false := by simpa using h0
          have HR := Keep.mk hr
          clear hr
          go_wp2
          go_ret3
          refine ⟨?_, rfl⟩
          rw [HR.out]
          refine congrArg (fun z => Ending.returned (Value.tuple #[Value.int .u64 z, Value.int .i64 8, Value.int .i64 0])) ?_
          have hyb := hy.out
          rw [hz.out] at hyb ⊢
          first | omega | (rw [IntKind.wrap_u64]; omega)
        have hr : fstG ((lst s).drop 8) (7+1) (y + c % 128 * 2 ^ (7 * 7)) = fstG (lst s) 0 0 := by rw [← hF.out, HG.out, fstG, if_neg (by omega), if_neg (by omega), if_neg h1]
        have HR := Keep.mk hr
        have hz := Keep.mk e7
        have hz2 : Keep ((2 : Int) ^ (7 * 8) = 72057594037927936) := ⟨by decide⟩
        clear hr e7
        have hc3 : (c == 0) = false := by simpa using h0
        go_wp2
        refine ⟨⟨8, y + c % 128 * 2 ^ (7 * 7), by omega, by omega, ?_, rfl, ⟨HR.out⟩, ⟨?_⟩⟩, by simp [intOf]⟩
        · have hyb := hy.out
          rw [hz.out] at hyb ⊢
          refine congrArg (Value.int .u64) ?_
          first | omega | (rw [IntKind.wrap_u64]; omega)
        · have hyb := hy.out
          rw [hz.out] at hyb ⊢
          rw [hz2.out]
          omega
      · have e7 : (2 : Int) ^ (7 * 8) = 72057594037927936 := by decide
        by_cases h0 : c = 0
        · have hr : fstG (lst s) 0 0 = (0, 0, 21) := by rw [← hF.out, HG.out, fstG, if_neg (by omega), if_pos ⟨h0, by omega⟩]
          clear HG hc
          subst h0
          clear e7
          have HR := Keep.mk hr
          clear hr
          go_wp2
          go_ret3
          refine ⟨?_, rfl⟩
          rw [HR.out]
          rfl
        by_cases h1 : c < 128
        · have hr : fstG (lst s) 0 0 = (y + c % 128 * 2 ^ (7 * 8), ((8 : Nat) : Int) + 1, 0) := by rw [← hF.out, HG.out, fstG, if_neg (by omega), if_neg (by omega), if_pos h1]
          have hz := Keep.mk e7
          clear e7
          have hc3 : (c == 0) = false := by simpa using h0
          have HR := Keep.mk hr
          clear hr
          go_wp2
          go_ret3
          refine ⟨?_, rfl⟩
          rw [HR.out]
          refine congrArg (fun z => Ending.returned (Value.tuple #[Value.int .u64 z, Value.int .i64 9, Value.int .i64 0])) ?_
          have hyb := hy.out
          rw [hz.out] at hyb ⊢
          first | omega | (rw [IntKind.wrap_u64]; omega)
        have hr : fstG ((lst s).drop 9) (8+1) (y + c % 128 * 2 ^ (7 * 8)) = fstG (lst s) 0 0 := by rw [← hF.out, HG.out, fstG, if_neg (by omega), if_neg (by omega), if_neg h1]
        have HR := Keep.mk hr
        have hz := Keep.mk e7
        have hz2 : Keep ((2 : Int) ^ (7 * 9) = 9223372036854775808) := ⟨by decide⟩
        clear hr e7
        have hc3 : (c == 0) = false := by simpa using h0
        go_wp2
        refine ⟨⟨9, y + c % 128 * 2 ^ (7 * 8), by omega, by omega, ?_, rfl, ⟨HR.out⟩, ⟨?_⟩⟩, by simp [intOf]⟩
        · have hyb := hy.out
          rw [hz.out] at hyb ⊢
          refine congrArg (Value.int .u64) ?_
          first | omega | (rw [IntKind.wrap_u64]; omega)
        · have hyb := hy.out
          rw [hz.out] at hyb ⊢
          rw [hz2.out]
          omega
      · have e7 : (2 : Int) ^ (7 * 9) = 9223372036854775808 := by decide
        by_cases h2 : 1 < c
        · have hr : fstG (lst s) 0 0 = (0, 0, 22) := by rw [← hF.out, HG.out, fstG, if_pos ⟨rfl, h2⟩]
          clear e7
          have HR := Keep.mk hr
          clear hr
          go_wp2
          go_ret3
          refine ⟨?_, rfl⟩
          rw [HR.out]
          rfl
        by_cases h0 : c = 0
        · have hr : fstG (lst s) 0 0 = (0, 0, 21) := by rw [← hF.out, HG.out, fstG, if_neg (by omega), if_pos ⟨h0, by omega⟩]
          clear HG hc
          subst h0
          clear e7
          have HR := Keep.mk hr
          clear hr
          go_wp2
          go_ret3
          refine ⟨?_, rfl⟩
          rw [HR.out]
          rfl
        have h1 : c < 128 := by omega
        have hr : fstG (lst s) 0 0 = (y + c % 128 * 2 ^ (7 * 9), ((9 : Nat) : Int) + 1, 0) := by rw [← hF.out, HG.out, fstG, if_neg (by omega), if_neg (by omega), if_pos h1]
        have hz := Keep.mk e7
        clear e7
        have hc3 : (c == 0) = false := by simpa using h0
        have HR := Keep.mk hr
        clear hr
        go_wp2
        go_ret3
        refine ⟨?_, rfl⟩
        rw [HR.out]
        refine congrArg (fun z => Ending.returned (Value.tuple #[Value.int .u64 z, Value.int .i64 10, Value.int .i64 0])) ?_
        have hyb := hy.out
        rw [hz.out] at hyb ⊢
        first | omega | (rw [IntKind.wrap_u64]; omega)
    · have hlt' : ¬ ((t : Int) < (s.size : Int)) := by omega
      have hr : fstG (lst s) 0 0 = (0, 0, 20) := by
        rw [← hF.out, List.drop_of_length_le (by rw [lst_len]; omega), fstG]
      have HR := Keep.mk hr
      clear hr
      go_wp2
      go_ret3
      refine ⟨?_, rfl⟩
      rw [HR.out]
      rfl
end Go.Proofs.YtdkhjeofjhcceaaGreatDoor.Nd
namespace Go.Proofs.YtdkhjeofjhcceaaGreatDoor.Nd
open Go.RowKit

theorem lst_extract (s : ByteArray) (a b : Nat) : lst (s.extract a b) = ((lst s).drop a).take (b - a) := by
  unfold lst
  rw [← List.map_drop, ← List.map_take]
  congr 1
  rw [ByteArray.data_extract, Array.toList_extract]
theorem lst_from (s : ByteArray) (a : Nat) : lst (s.extract a s.size) = (lst s).drop a := by
  rw [lst_extract, List.take_of_length_le (by rw [List.length_drop, lst_len]; omega)]
theorem fstG_shape (D : List Int) : ∀ (i : Nat) (x : Int), ((fstG D i x).2.2 ≠ 0 → (fstG D i x).1 = 0 ∧ (fstG D i x).2.1 = 0) ∧ ((fstG D i x).2.2 = 0 → (i : Int) < (fstG D i x).2.1 ∧ (fstG D i x).2.1 ≤ i + D.length) := by
  induction D with
  | nil => intro i x; simp [fstG]
  | cons c D ih =>
    intro i x
    rw [fstG]
    by_cases h1 : i = 9 ∧ 1 < c
    · rw [if_pos h1]; simp
    · rw [if_neg h1]
      by_cases h2 : c = 0 ∧ 0 < i
      · rw [if_pos h2]; simp
      · rw [if_neg h2]
        by_cases h3 : c < 128
        · rw [if_pos h3]; simp; omega
        · rw [if_neg h3]
          have h := ih (i + 1) (x + c % 128 * 2 ^ (7 * i))
          refine ⟨h.1, fun h0 => ?_⟩
          have := h.2 h0
          simp only [List.length_cons]
          omega
theorem fstM_shape (D : List Int) (most : Int) : ((fstM D most).2.2 ≠ 0 → (fstM D most).1 = 0 ∧ (fstM D most).2.1 = 0) ∧ 0 ≤ (fstM D most).2.1 ∧ (fstM D most).2.1 ≤ D.length := by
  have h := fstG_shape D 0 0
  unfold fstM
  split
  · simp
  · refine ⟨h.1, ?_⟩
    by_cases h0 : (fstG D 0 0).2.2 = 0
    · have := h.2 h0; omega
    · have := h.1 h0; omega

def ErrAs (w w' : World) (why : Int) (a : Nat) (bad : Option Nat) (er : Value) : Prop :=
  (why = 0 ∧ bad = none ∧ er = .nilIface) ∨ (why ≠ 0 ∧ ∃ q, w.heap.size ≤ q ∧ bad = some q ∧ er = err q ∧ BadAt w' q why a)
def RdPost (p : Nat) (s : ByteArray) (why : Int) (a : Nat) (res : Value) (w : World) (e : Ending) (w' : World) : Prop :=
  ∃ bad er, e = .returned (.tuple #[res, er]) ∧ InAt w' p s a bad ∧ (Grown w w' fun k => k = p) ∧ ErrAs w w' why a bad er

set_option maxRecDepth 8000 in
set_option maxHeartbeats 1000000 in
theorem inum_good (p : Nat) (s : ByteArray) (a : Nat) (most : Nat) (w : World) (h : InAt w p s a none) (hb : s.size ≤ 140737488355328) :
    Calls Tryz.prog 45 #[ptr p, .int .u64 (most : Int)] w (RdPost p s (fstM ((lst s).drop a) most).2.2 (a + (fstM ((lst s).drop a) most).2.1.toNat) (.int .u64 (fstM ((lst s).drop a) most).1) w) := by
  have HI := Keep.mk h
  have c0 : w.cell? ⟨p, 0, none⟩ = some (.string s) := by rw [h.blk.cell]; rfl
  have c1 : w.cell? ⟨p, 1, none⟩ = some (.int .i64 (a : Int)) := by rw [h.blk.cell]; rfl
  have c2 : w.cell? ⟨p, 2, none⟩ = some (.pointer none) := by rw [h.blk.cell]; rfl
  have hle := h.le
  have h1 : (a : Int) ≤ (s.size : Int) := by omega
  have h2 : (s.size : Int) ≤ 140737488355328 := by omega
  have hS := Keep.mk (fstM_shape ((lst s).drop a) most)
  have HF := fun wx => first_any (s.extract a s.size) wx (by rw [← lst_len, lst_from, List.length_drop, lst_len]; omega)
  rw [lst_from] at HF
  have hM : Keep (fstM ((lst s).drop a) most = if (fstG ((lst s).drop a) 0 0).2.2 = 0 ∧ (most : Int) < (fstG ((lst s).drop a) 0 0).1 then (0, 0, 22) else fstG ((lst s).drop a) 0 0) := ⟨rfl⟩
  have hlen : Keep (((lst s).drop a).length = s.size - a) := ⟨by rw [List.length_drop, lst_len]⟩
  generalize fstM ((lst s).drop a) most = R at *
  generalize fstG ((lst s).drop a) 0 0 = G at *
  obtain ⟨x, k, y⟩ := G
  simp only at HF hM
  have HF2 := Keep.mk HF
  clear HF h hb hle
  go_enter Tryz.func45, Tryz.ntmps45
  go_wp2_with fail
  go_quiet (first | (go_at_call 72; refine Calls.quiet_of_same (HF2.out _)))
  obtain ⟨w1, hw1⟩ : ∃ w1, Keep (w1 = w.drewN nq) := ⟨_, ⟨rfl⟩⟩
  rw [← hw1.out]
  have hI1 : InAt w1 p s a none := by rw [hw1.out]; exact ⟨HI.out.blk.drewN nq, HI.out.le⟩
  have hG1 : Grown w w1 (fun k => k = p) := by rw [hw1.out]; exact (Grown.refl w _).drewN nq
  have d1 : w1.cell? ⟨p, 1, none⟩ = some (.int .i64 (a : Int)) := by rw [hI1.blk.cell]; rfl
  have f1 := hI1.blk.frozen 1
  have HI1 := Keep.mk hI1
  have HG1 := Keep.mk hG1
  clear c0 c1 c2 hI1 hG1 hw1
  by_cases hy : y = 0
  · subst hy
    by_cases hx : (most : Int) < x
    · have hR : Keep (R = (0, 0, 22)) := ⟨by rw [hM.out, if_pos ⟨rfl, hx⟩]⟩
      go_wp2_with fail
      refine (ifail_any p s a 22 w1 HI1.out).mono ?_
      rintro e w2 ⟨rfl, h3, h4, h5⟩
      have HP := Keep.mk (And.intro h3 (And.intro h4 h5))
      clear h3 h4 h5
      go_wp2
      go_ret2
      rw [hR.out]
      exact ⟨some w1.heap.size, err w1.heap.size, rfl, HP.out.1, HG1.out.trans HP.out.2.2, .inr ⟨by decide, w1.heap.size, HG1.out.size, rfl, rfl, HP.out.2.1⟩⟩
    · have hR : Keep (R = (x, k, 0)) := ⟨by rw [hM.out, if_neg (fun h => hx h.2)]⟩
      rw [hR.out] at hS
      have hk0 : 0 ≤ k := hS.out.2.1
      have hk1 : k ≤ (s.size : Int) - a := by have := hS.out.2.2; simp only at this; rw [hlen.out] at this; omega
      obtain ⟨kn, rfl⟩ : ∃ kn : Nat, k = (kn : Int) := ⟨k.toNat, by omega⟩
      have HI2 : Keep (InAt (w1.setCell ⟨p, 1, none⟩ (.int .i64 ((a : Int) + (kn : Int)))) p s (a + kn) none) := ⟨⟨HI1.out.blk.set 1 _, by omega⟩⟩
      clear hS
      go_wp2
      go_ret2
      rw [hR.out]
      exact ⟨none, .nilIface, rfl, HI2.out, HG1.out.trans (Grown.setCell w1 p 1 _ fun _ => rfl), .inl ⟨rfl, rfl, rfl⟩⟩
  · have hR : Keep (R = (x, k, y)) := ⟨by rw [hM.out, if_neg (fun h => hy h.1)]⟩
    rw [hR.out] at hS
    have hxk := hS.out.1 hy
    simp only at hxk
    obtain ⟨rfl, rfl⟩ := hxk
    have hy1 : (y == 0) = false := by simpa using hy
    have hy2 : (y != 0) = true := by simpa using hy
    clear hS
    go_wp2_with fail
    refine (ifail_any p s a y w1 HI1.out).mono ?_
    rintro e w2 ⟨rfl, h3, h4, h5⟩
    have HP := Keep.mk (And.intro h3 (And.intro h4 h5))
    clear h3 h4 h5
    go_wp2
    go_ret2
    rw [hR.out]
    exact ⟨some w1.heap.size, err w1.heap.size, rfl, HP.out.1, HG1.out.trans HP.out.2.2, .inr ⟨hy, w1.heap.size, HG1.out.size, rfl, rfl, HP.out.2.1⟩⟩

theorem below_drewN (w : World) (n : Nat) : Below w.heap.size w (w.drewN n) := ⟨rfl, rfl, rfl, Nat.le_refl _, fun _ _ => rfl⟩

def nextW (D : List Int) (n : Int) : Int := if n < 0 then 1 else if (D.length : Int) < n then 20 else 0
def nextN (D : List Int) (n : Int) : Nat := if nextW D n = 0 then n.toNat else 0
set_option maxRecDepth 8000 in
set_option maxHeartbeats 1000000 in
theorem inext_good (p : Nat) (s : ByteArray) (a : Nat) (n : Int) (w : World) (h : InAt w p s a none) (hb : s.size ≤ 140737488355328) (hn1 : -9223372036854775808 ≤ n) (hn2 : n ≤ 9223372036854775807) :
    Calls Tryz.prog 101 #[ptr p, .int .i64 n] w (RdPost p s (nextW ((lst s).drop a) n) (a + nextN ((lst s).drop a) n) (.string (s.extract a (a + nextN ((lst s).drop a) n))) w) := by
  have HI := Keep.mk h
  have c0 : w.cell? ⟨p, 0, none⟩ = some (.string s) := by rw [h.blk.cell]; rfl
  have c1 : w.cell? ⟨p, 1, none⟩ = some (.int .i64 (a : Int)) := by rw [h.blk.cell]; rfl
  have c2 : w.cell? ⟨p, 2, none⟩ = some (.pointer none) := by rw [h.blk.cell]; rfl
  have hle := h.le
  have h1 : (a : Int) ≤ (s.size : Int) := by omega
  have h2 : (s.size : Int) ≤ 140737488355328 := by omega
  have hlen : ((lst s).drop a).length = s.size - a := by rw [List.length_drop, lst_len]
  have f1 := h.blk.frozen 1
  have hse : s.extract a a = ByteArray.empty := by
    rw [← nums_lst (s.extract a a), lst_extract]; simp [strOfNums]; rfl
  by_cases hneg : n < 0
  · have hW : nextW ((lst s).drop a) n = 1 := by unfold nextW; rw [if_pos hneg]
    have hN : nextN ((lst s).drop a) n = 0 := by unfold nextN; rw [hW]; rfl
    rw [hW, hN, Nat.add_zero, hse]
    clear hW hN hse hlen h hn1 hn2 hb hle
    go_enter Tryz.func101, Tryz.ntmps101
    go_wp2_with fail
    refine (ifail_any p s a 1 w HI.out).mono ?_
    rintro e w2 ⟨rfl, h3, h4, h5⟩
    have HP := Keep.mk (And.intro h3 (And.intro h4 h5))
    clear h3 h4 h5
    go_wp2
    go_ret2
    exact ⟨some w.heap.size, err w.heap.size, rfl, HP.out.1, HP.out.2.2, .inr ⟨by decide, w.heap.size, Nat.le_refl _, rfl, rfl, HP.out.2.1⟩⟩
  · by_cases hbig : (s.size : Int) - a < n
    · have hW : nextW ((lst s).drop a) n = 20 := by unfold nextW; rw [if_neg hneg, if_pos (by rw [hlen]; omega)]
      have hN : nextN ((lst s).drop a) n = 0 := by unfold nextN; rw [hW]; rfl
      rw [hW, hN, Nat.add_zero, hse]
      have HSz := Keep.mk hb
      clear hW hN hse hlen h hn1 hn2 hb hle
      go_enter Tryz.func101, Tryz.ntmps101
      go_wp2_with fail
      refine (ileft_any p s a none w HI.out HSz.out).mono ?_
      rintro e w1 ⟨rfl, q, hw1⟩
      have HI1 : Keep (InAt w1 p s a none) := ⟨by rw [hw1]; exact ⟨HI.out.blk.drewN q, HI.out.le⟩⟩
      have HG1 : Keep (Grown w w1 fun k => k = p) := ⟨by rw [hw1]; exact (Grown.refl w _).drewN q⟩
      clear hw1 c0 c1 c2
      go_wp2_with fail
      refine (ifail_any p s a 20 w1 HI1.out).mono ?_
      rintro e w2 ⟨rfl, h3, h4, h5⟩
      have HP := Keep.mk (And.intro h3 (And.intro h4 h5))
      clear h3 h4 h5
      go_wp2
      go_ret2
      exact ⟨some w1.heap.size, err w1.heap.size, rfl, HP.out.1, HG1.out.trans HP.out.2.2, .inr ⟨by decide, w1.heap.size, HG1.out.size, rfl, rfl, HP.out.2.1⟩⟩
    · obtain ⟨m, rfl⟩ : ∃ m : Nat, n = (m : Int) := ⟨n.toNat, by omega⟩
      have hW : nextW ((lst s).drop a) m = 0 := by unfold nextW; rw [if_neg hneg, if_neg (by rw [hlen]; omega)]
      have hN : nextN ((lst s).drop a) m = m := by unfold nextN; rw [hW]; simp
      rw [hW, hN]
      have HSz := Keep.mk hb
      have hm1 : (a : Int) + (m : Int) ≤ (s.size : Int) := by omega
      clear hW hN hse hlen h hn1 hn2 hb hle
      go_enter Tryz.func101, Tryz.ntmps101
      go_wp2_with fail
      refine (ileft_any p s a none w HI.out HSz.out).mono ?_
      rintro e w1 ⟨rfl, q, hw1⟩
      have hI1 : InAt w1 p s a none := by rw [hw1]; exact ⟨HI.out.blk.drewN q, HI.out.le⟩
      have HG1 : Keep (Grown w w1 fun k => k = p) := ⟨by rw [hw1]; exact (Grown.refl w _).drewN q⟩
      have c0 : w1.cell? ⟨p, 0, none⟩ = some (.string s) := by rw [hI1.blk.cell]; rfl
      have c1 : w1.cell? ⟨p, 1, none⟩ = some (.int .i64 (a : Int)) := by rw [hI1.blk.cell]; rfl
      have HI1 := Keep.mk hI1
      clear hw1 c2 f1 hI1
      go_wp2_with fail
      go_quiet (fail)
      obtain ⟨w2, hw2⟩ : ∃ w2, Keep (w2 = w1.drewN nq) := ⟨_, ⟨rfl⟩⟩
      rw [← hw2.out]
      have hI2 : InAt w2 p s a none := by rw [hw2.out]; exact ⟨HI1.out.blk.drewN nq, HI1.out.le⟩
      have hG2 : Grown w w2 (fun k => k = p) := by rw [hw2.out]; exact HG1.out.drewN nq
      have d1 : w2.cell? ⟨p, 1, none⟩ = some (.int .i64 (a : Int)) := by rw [hI2.blk.cell]; rfl
      have f1 := hI2.blk.frozen 1
      have HI2 : Keep (InAt (w2.setCell ⟨p, 1, none⟩ (.int .i64 ((a : Int) + (m : Int)))) p s (a + m) none) := ⟨⟨hI2.blk.set 1 _, by omega⟩⟩
      have HG2 := Keep.mk hG2
      clear c0 c1 hI2 hG2 hw2
      go_wp2
      go_ret2
      exact ⟨none, .nilIface, rfl, HI2.out, HG2.out.trans (Grown.setCell w2 p 1 _ fun _ => rfl), .inl ⟨rfl, rfl, rfl⟩⟩
end Go.Proofs.YtdkhjeofjhcceaaGreatDoor.Nd
namespace Go.Proofs.YtdkhjeofjhcceaaGreatDoor.Nd
open Go.RowKit

theorem lst_at0 (s : ByteArray) (h : 0 < s.size) : (s[0].toNat : Int) = (lst s).getD 0 0 := by
  have := lst_get s 0 h
  rw [List.drop_zero] at this
  rw [this]; rfl
theorem ext_size (s : ByteArray) (a n : Nat) (h : a + n ≤ s.size) : (s.extract a (a + n)).size = n := by
  rw [← lst_len, lst_extract, List.length_take, List.length_drop, lst_len]; omega


theorem nextN_0 (D : List Int) (n : Int) (h : nextW D n = 0) : nextN D n = n.toNat ∧ 0 ≤ n ∧ n.toNat ≤ D.length := by
  unfold nextN
  rw [if_pos h]
  unfold nextW at h
  by_cases h1 : n < 0
  · rw [if_pos h1] at h; cases h
  · rw [if_neg h1] at h
    by_cases h2 : (D.length : Int) < n
    · rw [if_pos h2] at h; cases h
    · exact ⟨rfl, by omega, by omega⟩
theorem nextN_1 (D : List Int) (n : Int) (h : nextW D n ≠ 0) : nextN D n = 0 := by unfold nextN; rw [if_neg h]

set_option maxRecDepth 8000 in
set_option maxHeartbeats 1000000 in
theorem ibyte_good (p : Nat) (s : ByteArray) (a : Nat) (w : World) (h : InAt w p s a none) (hb : s.size ≤ 140737488355328) (D : List Int) (hD : D = (lst s).drop a) (W : Int) (hW : W = nextW D 1) (N : Nat) (hN : N = nextN D 1) (c : Int) (hc : c = if W = 0 then D.getD 0 0 else 0) :
    Calls Tryz.prog 108 #[ptr p] w (RdPost p s W (a + N) (.int .u8 c) w) := by
  have HC := Keep.mk (inext_good p s a 1 w h hb (by decide) (by decide))
  have HD : Keep (((lst s).drop a).length = s.size - a) := ⟨by rw [List.length_drop, lst_len]⟩
  have HL := Keep.mk h.le
  rw [← hD] at HC HD
  rw [← hW, ← hN] at HC
  have HDD := Keep.mk hD
  have HW := Keep.mk hW
  have HN := Keep.mk hN
  have Hc := Keep.mk hc
  clear h hb hD hW hN hc
  go_enter Tryz.func108, Tryz.ntmps108
  go_wp2_with fail
  refine HC.out.mono ?_
  rintro e w1 ⟨bad, er, rfl, h1, h2, h3⟩
  have H1 := Keep.mk h1
  have H2 := Keep.mk h2
  have H3 := Keep.mk h3
  clear h1 h2 HC
  rcases h3 with ⟨h0, rfl, rfl⟩ | ⟨h0, q, hq, rfl, rfl, hbad⟩
  · have hx := nextN_0 D 1 (by rw [← HW.out]; exact h0)
    have hN1 : N = 1 := by rw [HN.out, hx.1]; rfl
    subst hN1
    have hDl : 1 ≤ D.length := hx.2.2
    have hsz : (s.extract a (a + 1)).size = 1 := ext_size s a 1 (by have := HD.out; omega)
    have hz2 : 0 < (s.extract a (a + 1)).size := by omega
    have hv := lst_at0 (s.extract a (a + 1)) hz2
    have hl : (lst (s.extract a (a + 1))).getD 0 0 = c := by
      rw [lst_extract, ← HDD.out, Hc.out, if_pos h0]
      cases D with
      | nil => simp at hDl
      | cons c D => simp
    rw [hl] at hv
    have hz : (0 : Int) < ((s.extract a (a + 1)).size : Int) := by omega
    have H0 := Keep.mk h0
    clear hl h0 hx hDl hsz HN HDD
    generalize s.extract a (a + 1) = st at *
    go_wp2
    go_ret2
    exact ⟨none, .nilIface, rfl, H1.out, H2.out, H3.out⟩
  · have hc0 : c = 0 := by rw [Hc.out, if_neg h0]
    have H0 := Keep.mk h0
    have Hb := Keep.mk hbad
    subst hc0
    clear h0 hbad
    unfold err
    go_wp2
    go_ret2
    exact ⟨some q, err q, rfl, H1.out, H2.out, H3.out⟩

def zag (x : Int) : Int := if x % 2 = 1 then -(x / 2) - 1 else x / 2
set_option maxRecDepth 8000 in
set_option maxHeartbeats 1000000 in
theorem isigned_good (p : Nat) (s : ByteArray) (a : Nat) (w : World) (h : InAt w p s a none) (hb : s.size ≤ 140737488355328) (R : Int × Int × Int) (hR : R = fstM ((lst s).drop a) 18446744073709551615) (y : Int) (hy : y = if R.2.2 = 0 then zag R.1 else 0) (hx0 : 0 ≤ R.1) (hx1 : R.1 < 18446744073709551616) :
    Calls Tryz.prog 149 #[ptr p] w (RdPost p s R.2.2 (a + R.2.1.toNat) (.int .i64 y) w) := by
  have hc := inum_good p s a 18446744073709551615 w h hb
  rw [show ((18446744073709551615 : Nat) : Int) = 18446744073709551615 from rfl, ← hR] at hc
  have HC := Keep.mk hc
  obtain ⟨x, k, W⟩ := R
  have HY := Keep.mk hy
  have HX1 : Keep (x / 2 ≤ 9223372036854775807) := ⟨by simp only at hx1; omega⟩
  simp only at hx0
  have hx2 : 0 ≤ x / 2 := by omega
  have hx3 : x / 2 ≤ 9223372036854775807 := HX1.out
  clear hc h hb hR hy hx1
  go_enter Tryz.func149, Tryz.ntmps149
  go_wp2_with fail
  refine HC.out.mono ?_
  rintro e w1 ⟨bad, er, rfl, h1, h2, h3⟩
  have H1 := Keep.mk h1
  have H2 := Keep.mk h2
  have H3 := Keep.mk h3
  clear h1 h2 HC
  rcases h3 with ⟨h0, rfl, rfl⟩ | ⟨h0, q, hq, rfl, rfl, hbad⟩
  · by_cases hodd : x % 2 = 1
    · have hyy : y = -(x / 2) - 1 := by rw [HY.out, if_pos h0]; unfold zag; rw [if_pos hodd]
      subst hyy
      have ho : (x % 2 == 1) = true := by simpa using hodd
      clear hodd h0 HY
      go_wp2
      go_ret2
      exact ⟨none, .nilIface, rfl, H1.out, H2.out, H3.out⟩
    · have hyy : y = x / 2 := by rw [HY.out, if_pos h0]; unfold zag; rw [if_neg hodd]
      subst hyy
      have ho : (x % 2 == 1) = false := by simpa using hodd
      clear hodd h0 HY
      go_wp2
      go_ret2
      exact ⟨none, .nilIface, rfl, H1.out, H2.out, H3.out⟩
  · have hc0 : y = 0 := by rw [HY.out, if_neg h0]
    subst hc0
    clear h0 hbad HY
    unfold err
    go_wp2
    go_ret2
    exact ⟨some q, err q, rfl, H1.out, H2.out, H3.out⟩

end Go.Proofs.YtdkhjeofjhcceaaGreatDoor.Nd
namespace Go.Proofs.YtdkhjeofjhcceaaGreatDoor.Nd
open Go.RowKit

def byt (D : List Int) (mm : Int) : Int × Nat × List Int :=
  if (fstM D mm).2.2 = 0 then (nextW (D.drop (fstM D mm).2.1.toNat) (fstM D mm).1, (fstM D mm).2.1.toNat + nextN (D.drop (fstM D mm).2.1.toNat) (fstM D mm).1, (D.drop (fstM D mm).2.1.toNat).take (nextN (D.drop (fstM D mm).2.1.toNat) (fstM D mm).1)) else ((fstM D mm).2.2, 0, [])
theorem byt_eq (D : List Int) (mm : Int) : byt D mm = if (fstM D mm).2.2 = 0 then (nextW (D.drop (fstM D mm).2.1.toNat) (fstM D mm).1, (fstM D mm).2.1.toNat + nextN (D.drop (fstM D mm).2.1.toNat) (fstM D mm).1, (D.drop (fstM D mm).2.1.toNat).take (nextN (D.drop (fstM D mm).2.1.toNat) (fstM D mm).1)) else ((fstM D mm).2.2, 0, []) := rfl
theorem fstM_le (D : List Int) (mm : Int) (hB : Byts D) : (fstM D mm).2.2 = 0 → 0 ≤ (fstM D mm).1 ∧ (fstM D mm).1 ≤ mm := by
  unfold fstM
  split
  · intro h; cases h
  · rename_i h
    intro h0
    obtain ⟨x, h1, _⟩ := fstG_form D (fstG D 0 0).1 (fstG D 0 0).2.1 hB (Prod.ext rfl (Prod.ext rfl h0))
    refine ⟨by rw [h1]; omega, ?_⟩
    by_cases hle : (fstG D 0 0).1 ≤ mm
    · exact hle
    · exact absurd ⟨h0, by omega⟩ h

set_option maxRecDepth 8000 in
set_option maxHeartbeats 1000000 in
theorem ireadS_good (p : Nat) (s : ByteArray) (a : Nat) (most : Int) (mm : Nat) (hmm : (mm : Int) = max most 0) (w : World) (h : InAt w p s a none) (hb : s.size ≤ 140737488355328) (hm2 : mm ≤ 9223372036854775807) (D : List Int) (hD : D = (lst s).drop a) (W : Int) (hW : W = (byt D (mm : Int)).1) (N : Nat) (hN : N = (byt D (mm : Int)).2.1) (l : List Int) (hl : l = (byt D (mm : Int)).2.2) (st : ByteArray) (hst : st = strOfNums l) :
    Calls Tryz.prog 154 #[ptr p, .int .i64 most] w (RdPost p s W (a + N) (.string st) w) := by
  have hc := inum_good p s a mm w h hb
  rw [← hD] at hc
  have HLD : Keep (D.length = s.size - a) := ⟨by rw [hD, List.length_drop, lst_len]⟩
  have HL := Keep.mk h.le
  have HS := Keep.mk hb
  have HDD := Keep.mk hD
  have HBy := Keep.mk (byt_eq D (mm : Int))
  have HSh := Keep.mk (fstM_shape D (mm : Int))
  have HLe := Keep.mk (fstM_le D (mm : Int) (by rw [hD]; exact (lst_byts s).drop a))
  have HW := Keep.mk hW
  have HN := Keep.mk hN
  have Hl := Keep.mk hl
  have Hst := Keep.mk hst
  have hmx := hmm.symm
  have hwm : IntKind.u64.wrap (mm : Int) = (mm : Int) := by rw [IntKind.wrap_u64]; omega
  have Hm2 := Keep.mk hm2
  clear hW hN hl hD hmm h hb hm2 hst
  generalize fstM D (mm : Int) = R at *
  obtain ⟨x, k, y⟩ := R
  simp only at hc HBy HSh HLe
  have HC := Keep.mk hc
  clear hc
  go_enter Tryz.func154, Tryz.ntmps154
  go_wp2_with fail
  refine HC.out.mono ?_
  rintro e w1 ⟨bad, er, rfl, h1, h2, h3⟩
  have H1 := Keep.mk h1
  have H2 := Keep.mk h2
  have H3 := Keep.mk h3
  clear h1 h2 HC hwm hmx
  rcases h3 with ⟨h0, rfl, rfl⟩ | ⟨h0, q, hq, rfl, rfl, hbad⟩
  · obtain ⟨hx0, hx1⟩ := HLe.out h0
    have hk0 : 0 ≤ k := HSh.out.2.1
    have hk1 : k ≤ D.length := HSh.out.2.2
    obtain ⟨kn, rfl⟩ : ∃ kn : Nat, k = (kn : Int) := ⟨k.toNat, by omega⟩
    rw [if_pos h0, Int.toNat_natCast] at HBy
    have hx2 : x ≤ 9223372036854775807 := by have := Hm2.out; omega
    have hak : Keep (a + kn ≤ s.size) := ⟨by have := HLD.out; have := HL.out; omega⟩
    rw [Int.toNat_natCast] at H1
    have hc2 := inext_good p s (a + kn) x w1 H1.out HS.out (by omega) hx2
    have hDk : (lst s).drop (a + kn) = D.drop kn := by rw [HDD.out, List.drop_drop]
    rw [hDk] at hc2
    obtain ⟨W2, hW2⟩ : ∃ W2, Keep (W2 = nextW (D.drop kn) x) := ⟨_, ⟨rfl⟩⟩
    obtain ⟨N2, hN2⟩ : ∃ N2, Keep (N2 = nextN (D.drop kn) x) := ⟨_, ⟨rfl⟩⟩
    rw [← hW2.out, ← hN2.out] at hc2 HBy
    have eW : W = W2 := by rw [HW.out, HBy.out]
    have eN : N = kn + N2 := by rw [HN.out, HBy.out]
    have el : l = (D.drop kn).take N2 := by rw [Hl.out, HBy.out]
    have HC2 := Keep.mk hc2
    subst eW
    have HeN := Keep.mk eN
    have Hel := Keep.mk el
    have HDk := Keep.mk hDk
    clear hc2 h0 eN el hDk HW HN Hl HBy HSh HLe H3 hk0 hk1
    go_wp2_with fail
    refine HC2.out.mono ?_
    rintro e w2 ⟨bad, er, rfl, h4, h5, h6⟩
    have H4 : Keep (InAt w2 p s (a + N) bad) := ⟨by rw [HeN.out, ← Nat.add_assoc]; exact h4⟩
    have H5 := Keep.mk (H2.out.trans h5)
    have hsz := H2.out.size
    have H6 : Keep (ErrAs w w2 W (a + N) bad er) := ⟨by
      rw [HeN.out, ← Nat.add_assoc]
      rcases h6 with h6 | ⟨h6, q, h7, h8⟩
      · exact .inl h6
      · exact .inr ⟨h6, q, by omega, h8⟩⟩
    have hNl : Keep (N2 ≤ (D.drop kn).length) := ⟨by
      by_cases hw : W = 0
      · have := nextN_0 (D.drop kn) x (by rw [← hW2.out]; exact hw); rw [hN2.out, this.1]; exact this.2.2
      · rw [hN2.out, nextN_1 (D.drop kn) x (by rw [← hW2.out]; exact hw)]; omega⟩
    have hls : lst (s.extract (a + kn) (a + kn + N2)) = l := by rw [lst_extract, HDk.out, Hel.out, show a + kn + N2 - (a + kn) = N2 by omega]
    have hsz2 : (s.extract (a + kn) (a + kn + N2)).size = N2 := ext_size s (a + kn) N2 (by have := HLD.out; have := HL.out; have := hNl.out; have h8 := hak.out; have h9 := hNl.out; rw [List.length_drop] at h9; omega)
    clear h4 h5 HC2 hsz
    rcases h6 with ⟨h0, rfl, rfl⟩ | ⟨h0, q, hq, rfl, rfl, hbad⟩
    · have hS2 : s.extract (a + kn) (a + kn + N2) = st := by rw [Hst.out, ← hls, nums_lst]
      rw [hS2]
      clear hls hsz2 h0 hNl hS2
      go_wp2
      go_ret2
      exact ⟨none, .nilIface, rfl, H4.out, H5.out, H6.out⟩
    · have hN0 : N2 = 0 := by rw [hN2.out, nextN_1 (D.drop kn) x (by rw [← hW2.out]; exact h0)]
      have hS2 : st = ByteArray.empty := by rw [Hst.out, Hel.out, hN0]; rfl
      subst hS2
      clear h0 hbad hls hsz2 Hst Hel hN0
      unfold err
      go_wp2
      go_ret2
      exact ⟨some q, err q, rfl, H4.out, H5.out, H6.out⟩
  · rw [if_neg h0] at HBy
    have eW : W = y := by rw [HW.out, HBy.out]
    have eN : N = 0 := by rw [HN.out, HBy.out]
    have el : l = [] := by rw [Hl.out, HBy.out]
    have hS2 : st = ByteArray.empty := by rw [Hst.out, el]; rfl
    subst eW eN hS2
    obtain ⟨rfl, rfl⟩ := HSh.out.1 h0
    have H0 := Keep.mk h0
    clear h0 hbad HBy HSh HLe HW HN Hl Hst el
    unfold err
    go_wp2
    go_ret2
    exact ⟨some q, err q, rfl, H1.out, H2.out, H3.out⟩

set_option maxRecDepth 8000 in
set_option maxHeartbeats 1000000 in
theorem itext_good (p : Nat) (s : ByteArray) (a : Nat) (most : Int) (mm : Nat) (hmm : (mm : Int) = max most 0) (w : World) (h : InAt w p s a none) (hb : s.size ≤ 140737488355328) (hm2 : mm ≤ 9223372036854775807) (D : List Int) (hD : D = (lst s).drop a) (W : Int) (hW : W = (byt D (mm : Int)).1) (N : Nat) (hN : N = (byt D (mm : Int)).2.1) (l : List Int) (hl : l = (byt D (mm : Int)).2.2) (st : ByteArray) (hst : st = strOfNums l) :
    Calls Tryz.prog 141 #[ptr p, .int .i64 most] w (RdPost p s W (a + N) (.string st) w) := by
  have HC := Keep.mk (ireadS_good p s a most mm hmm w h hb hm2 D hD W hW N hN l hl st hst)
  clear hmm h hb hm2 hD hW hN hl hst
  go_enter Tryz.func141, Tryz.ntmps141
  go_wp2_with fail
  refine HC.out.mono ?_
  rintro e w1 ⟨bad, er, rfl, h1⟩
  have H := Keep.mk h1
  clear h1 HC
  go_wp2
  go_ret2
  exact ⟨bad, er, rfl, H.out⟩
end Go.Proofs.YtdkhjeofjhcceaaGreatDoor.Nd
namespace Go.Proofs.YtdkhjeofjhcceaaGreatDoor.Nd
open Go.RowKit

theorem results_cell_row2 {P : Program} {fn : Func} {p u : Tmp} {ty : TypeId} (h : fn.results = #[.cell p ty, .tmp u]) (tmps : Array Value) (w : World) (g : Nat) (t : TypeId) (cs : Array Value) (fr : Nat × Nat) (d : TypeDesc) (y : Value)
    (hp : tmps.getD p undef = .pointer (some ⟨g, 0, none⟩)) (hy : tmps.getD u undef = y) (hg : w.heap[g]? = some (.cells cs t fr))
    (hu : P.underlying ty = some d) (hd : (match d with | .struct _ | .array _ _ => true | _ => false) = true) (hi : (P.info? ty).map (·.size) = some cs.size) :
    (results fn tmps).run P w = .ok (.tuple #[.agg cs, y]) w := by
  rw [results_cell_tmp h, hp, hy]
  simp [asAddr, Result.andThen, run_loadVar_row w g t ty cs fr d hg hu hd hi]

theorem run_copyS (w : World) (g : Nat) (T ty : TypeId) (st : ByteArray) (n : Nat) (cur : Array Value) (hg : Blk w g T cur) (hs : cur.size = n) (hn : st.size = n ∨ st.size = 0) :
    (Builtin.copy_ #[32, 9] ty #[.slice (some ⟨g, 0, none⟩) n n, .string st]).run Tryz.prog w = .ok (goInt st.size) (w.setRow g ((bv (lst st)) ++ cur.toList.drop st.size).toArray) := by
  have hst := run_storeCells_at Tryz.prog g 0 T (bv (lst st)) 0 cur w hg (by rw [bv_len, lst_len]; omega) (bv_one _)
  have hcur : (cur.toList.take (0 + 0) ++ bv (lst st) ++ cur.toList.drop (0 + 0 + (bv (lst st)).length)).toArray = ((bv (lst st)) ++ cur.toList.drop st.size).toArray := by
    rw [bv_len, lst_len]; simp
  rw [hcur] at hst
  obtain ⟨i, hi, hzz⟩ := Option.map_eq_some_iff.1 Tryz.info5
  simp only [Prod.mk.injEq] at hzz
  obtain ⟨_, hsz, _⟩ := hzz
  have hf := Lib.run_firstCells_string (P := Tryz.prog) w 1 st
  rw [lst_cells] at hf
  have hmin : Nat.min st.size n = st.size := by rcases hn with h | h <;> simp [h]
  simp [Builtin.copy_, run_underlying Tryz.underlying32, Builtin.lenOf, sizeOf, typeInfo, hi, hsz, hmin, hf, hst]

def hrd (D : List Int) (W : Int) : Nat → Int := fun i => if W = 0 then D.getD i 0 else 0
theorem bytesA_of (l : List Int) (n : Nat) (h : l.length = n) : (bv l).toArray = bytesA n (fun i => l.getD i 0) := by
  apply Array.ext_getElem?
  intro i
  by_cases hi : i < n
  · rw [bytesA_get _ _ _ hi, List.getElem?_toArray, bv_get l i (by omega)]
  · rw [Array.getElem?_eq_none (by rw [List.size_toArray, bv_len]; omega), Array.getElem?_eq_none (by rw [bytesA_size]; omega)]
theorem copied (st : ByteArray) (D : List Int) (W : Int) (h : (W = 0 ∧ lst st = D.take 32 ∧ 32 ≤ D.length) ∨ (W ≠ 0 ∧ st.size = 0)) : ((bv (lst st)) ++ (bytesA 32 fun _ => 0).toList.drop st.size).toArray = bytesA 32 (hrd D W) := by
  rcases h with ⟨h0, h1, h2⟩ | ⟨h0, h1⟩
  · have hs : st.size = 32 := by rw [← lst_len, h1, List.length_take]; omega
    rw [hs, List.drop_of_length_le (by simp [bytesA_size]), List.append_nil, h1, bytesA_of _ 32 (by rw [List.length_take]; omega)]
    exact bytesA_congr fun i hi => by simp [hrd, h0, List.getD_eq_getElem?_getD, hi]
  · have hl : lst st = [] := List.eq_nil_of_length_eq_zero (by rw [lst_len]; exact h1)
    rw [hl, h1]
    simp only [bv, List.map_nil, List.nil_append, List.drop_zero, Array.toArray_toList]
    exact bytesA_congr fun i hi => by simp [hrd, h0]


set_option maxRecDepth 8000 in
set_option maxHeartbeats 1000000 in
theorem ihash_good (p : Nat) (s : ByteArray) (a : Nat) (w : World) (h : InAt w p s a none) (hb : s.size ≤ 140737488355328) (D : List Int) (hD : D = (lst s).drop a) (W : Int) (hW : W = nextW D 32) (N : Nat) (hN : N = nextN D 32) :
    Calls Tryz.prog 77 #[ptr p] w (RdPost p s W (a + N) (.agg (bytesA 32 (hrd D W))) w) := by
  have HI := Keep.mk h
  have HL := Keep.mk h.le
  have HLD : Keep (D.length = s.size - a) := ⟨by rw [hD, List.length_drop, lst_len]⟩
  have HS := Keep.mk hb
  have HDD := Keep.mk hD
  have HW := Keep.mk hW
  have HN := Keep.mk hN
  have Hp := Keep.mk h.blk.lt
  have HR := Keep.mk (show Blk ((w.alloc (.cells (bytesA 32 fun _ => 0) 50)).alloc (.cells (bytesA 32 fun _ => 0) 50)) w.heap.size 50 (bytesA 32 fun _ => 0) from (Blk.new w 50 _).alloc _)
  have HH : Keep (Blk ((w.alloc (.cells (bytesA 32 fun _ => 0) 50)).alloc (.cells (bytesA 32 fun _ => 0) 50)) (w.heap.size + 1) 50 (bytesA 32 fun _ => 0)) := ⟨by
    have h := Blk.new (w.alloc (.cells (bytesA 32 fun _ => 0) 50)) 50 (bytesA 32 fun _ => 0)
    simp only [World.size_alloc] at h
    exact h⟩
  have HB : Keep (Below w.heap.size w ((w.alloc (.cells (bytesA 32 fun _ => 0) 50)).alloc (.cells (bytesA 32 fun _ => 0) 50))) := ⟨((Below.refl _ _).alloc (Nat.le_refl _) _).alloc (by simp) _⟩
  have HZ : Keep (((w.alloc (.cells (bytesA 32 fun _ => 0) 50)).alloc (.cells (bytesA 32 fun _ => 0) 50)).heap.size = w.heap.size + 2) := ⟨by simp⟩
  clear h hb hD hW hN
  go_enter Tryz.func77, Tryz.ntmps77
  go_wp2_with (first | (refine wpList_new rfl 50 rfl _ Tryz.new50 ?_))
  generalize (w.alloc (.cells (bytesA 32 fun _ => 0) 50)).alloc (.cells (bytesA 32 fun _ => 0) 50) = w0 at *
  have hI0 : InAt w0 p s a none := ⟨HI.out.blk.below HB.out HI.out.blk.lt, HI.out.le⟩
  have hc := inext_good p s a 32 w0 hI0 HS.out (by decide) (by decide)
  rw [← HDD.out, ← HW.out, ← HN.out] at hc
  refine hc.mono ?_
  rintro e w1 ⟨bad, er, rfl, h1, h2, h3⟩
  have hR1 := h2.blk HR.out (fun e => by have := Hp.out; omega)
  have hH1 := h2.blk HH.out (fun e => by have := Hp.out; omega)
  have hcp : (W = 0 ∧ lst (s.extract a (a + N)) = D.take 32 ∧ 32 ≤ D.length) ∨ (W ≠ 0 ∧ (s.extract a (a + N)).size = 0) := by
    by_cases h0 : W = 0
    · have hx := nextN_0 D 32 (by rw [← HW.out]; exact h0)
      have hN32 : N = 32 := by rw [HN.out, hx.1]; rfl
      exact .inl ⟨h0, by rw [lst_extract, ← HDD.out, hN32, show a + 32 - a = 32 by omega], hx.2.2⟩
    · have hN0 : N = 0 := by rw [HN.out, nextN_1 D 32 (by rw [← HW.out]; exact h0)]
      exact .inr ⟨h0, by rw [hN0, ← lst_len, lst_extract]; simp⟩
  have hcs := run_copyS w1 (w.heap.size + 1) 50 3 (s.extract a (a + N)) 32 _ hH1 (bytesA_size _ _) (by
    rcases hcp with ⟨_, h4, h5⟩ | ⟨_, h4⟩
    · left; rw [← lst_len, h4, List.length_take]; omega
    · exact .inr h4)
  rw [copied _ D W hcp] at hcs
  have hH2 := hH1.setRow (bytesA 32 (hrd D W))
  have hR2 := hR1.setRow_ne (b' := w.heap.size + 1) (by omega) (bytesA 32 (hrd D W))
  have hI2 : InAt (w1.setRow (w.heap.size + 1) (bytesA 32 (hrd D W))) p s (a + N) bad := ⟨h1.blk.setRow_ne (by have := Hp.out; omega) _, h1.le⟩
  have hG0 : Grown w w1 (fun k => k = p) := (Grown.below HB.out).next h2 fun _ _ h => h
  have HE := Keep.mk h3
  have HI1 := Keep.mk h1
  have HG0 := Keep.mk hG0
  have HI2 := Keep.mk hI2
  obtain ⟨c, hcd⟩ : ∃ c, Keep (c = hrd D W) := ⟨_, ⟨rfl⟩⟩
  rw [← hcd.out] at hcs hH2 hR2 HI2
  rw [← hcd.out]
  have HH2 := Keep.mk hH2
  have HR2 := Keep.mk hR2
  obtain ⟨z, hz⟩ : ∃ z, Keep (z = goInt (s.extract a (a + N)).size) := ⟨_, ⟨rfl⟩⟩
  rw [← hz.out] at hcs
  clear hc hI0 h1 h2 h3 hR1 hH1 hcp hH2 hR2 hI2 hG0 hz HN HDD HW
  generalize s.extract a (a + N) = st at *
  obtain ⟨w2, hw2⟩ : ∃ w2, Keep (w2 = w1.setRow (w.heap.size + 1) (bytesA 32 c)) := ⟨_, ⟨rfl⟩⟩
  rw [← hw2.out] at hcs HH2 HR2 HI2
  go_wp2_with (first | (refine wpList_load_row rfl 50 (.tmp 4) rfl (w.heap.size + 1) rfl 50 (bytesA 32 c) (0, 0) (.array 32 5) HH2.out Tryz.underlying50 rfl (Tryz.size50B _) ?_) | (refine wpList_store_row rfl 50 (.tmp 2) (.tmp 15) rfl w.heap.size (bytesA 32 c) rfl rfl 50 (bytesA 32 fun _ => 0) HR2.out (Tryz.size50B _) (bytesA_sizes _ _ _) (bytesA_one _ _) ?_))
  refine bodyPost_ret (v := .tuple #[.agg (bytesA 32 c), er]) (results_cell_row2 Tryz.results77 _ _ w.heap.size 50 _ (0, 0) _ _ rfl rfl (HR2.out.setRow _) Tryz.underlying50 rfl (Tryz.size50B _)) rfl ?_
  have hp := Hp.out
  have hz := HZ.out
  refine ⟨bad, er, by rw [hcd.out], ⟨HI2.out.blk.setRow_ne (by omega) _, HI2.out.le⟩, ?_, ?_⟩
  · rw [hw2.out]
    exact (HG0.out.next (Grown.setRow w1 (w.heap.size + 1) _ (S := fun k => k = w.heap.size + 1) fun _ => rfl) fun i hi e => by omega).next (Grown.setRow _ w.heap.size _ (S := fun k => k = w.heap.size) fun _ => rfl) fun i hi e => by omega
  · rcases HE.out with h6 | ⟨h6, q, h7, h8, h9, h10⟩
    · exact .inl h6
    · refine .inr ⟨h6, q, by omega, h8, h9, ?_⟩
      rw [hw2.out]
      exact (h10.setRow_ne (by omega) _).setRow_ne (by omega) _


set_option maxRecDepth 8000 in
set_option maxHeartbeats 1000000 in
theorem newIn_any (v : Value) (l : List Int) (w : World) (hr : RowAt w v l) :
    Calls Tryz.prog 42 #[v] w fun e w' => e = .returned (ptr w.heap.size) ∧ w' = w.alloc (.cells #[.string (strOfNums l), .int .i64 0, .pointer none] 136) := by
  have hc := conv_row v l w hr
  clear hr
  go_enter Tryz.func42, Tryz.ntmps42
  go_wp2
  go_ret
  exact ⟨rfl, rfl⟩
end Go.Proofs.YtdkhjeofjhcceaaGreatDoor.Nd
namespace Go.Proofs.YtdkhjeofjhcceaaGreatDoor.Nd
open Go.RowKit

theorem blk_range {w : World} {b : Nat} {T : TypeId} {cs : Array Value} (h : Blk w b T cs) : w.rangeAt b 0 cs.toList := fun j v hv => by
  rw [Nat.zero_add, h.cell]; simpa using hv
theorem InAt.box {w : World} {p : Nat} {s : ByteArray} {a : Nat} {bad : Option Nat} (h : InAt w p s a bad) (o : Obj) : InAt (w.alloc o) p s a bad := ⟨h.blk.alloc o, h.le⟩
theorem results_cell1_row {P : Program} {fn : Func} {p : Tmp} {ty : TypeId} (h : fn.results = #[.cell p ty]) (tmps : Array Value) (w : World) (g : Nat) (t : TypeId) (cs : Array Value) (fr : Nat × Nat) (d : TypeDesc)
    (hp : tmps.getD p undef = .pointer (some ⟨g, 0, none⟩)) (hg : w.heap[g]? = some (.cells cs t fr))
    (hu : P.underlying ty = some d) (hd : (match d with | .struct _ | .array _ _ => true | _ => false) = true) (hi : (P.info? ty).map (·.size) = some cs.size) :
    (results fn tmps).run P w = .ok (.agg cs) w := by
  have hr := run_loadVar_row (P := P) w g t ty cs fr d hg hu hd hi
  simp only [results, h]
  simp only [Array.getD_eq_getD_getElem?] at hp
  simp [asAddr, hp, hr]

end Go.Proofs.YtdkhjeofjhcceaaGreatDoor.Nd
namespace Go.Proofs.YtdkhjeofjhcceaaGreatDoor.Nd
open Go.RowKit

def fnv (n : Nat) : Value := .func (.func n) #[] #[]
def fldA (i : Nat) : Array Value := if i = 0 then #[fnv 137, fnv 138, fnv 140] else if i = 1 then #[fnv 142, fnv 143, fnv 144] else if i = 2 then #[fnv 145, fnv 146, fnv 148] else #[fnv 150, fnv 151, fnv 152]
theorem fldA_size (i : Nat) : (fldA i).size = 3 := by
  unfold fldA
  split
  · rfl
  · split
    · rfl
    · split <;> rfl
theorem fldA_one (i : Nat) : (fldA i).all (·.oneCell') = true := by
  unfold fldA
  split
  · simp [fnv, Value.oneCell']
  · split
    · simp [fnv, Value.oneCell']
    · split <;> simp [fnv, Value.oneCell']
def noF : Array Value := #[.nilFunc, .nilFunc, .nilFunc]
theorem Tryz.size216 : (Tryz.prog.info? 216).map (·.size) = some 3 := by kernel_rfl
theorem Tryz.size216B (i : Nat) : (Tryz.prog.info? 216).map (·.size) = some (fldA i).size := by rw [fldA_size]; exact Tryz.size216
theorem Tryz.new216 (w : World) : (Instr.alloc 216 true (.tuple #[])).run Tryz.prog w = .ok (.pointer (some ⟨w.heap.size, 0, none⟩)) (w.alloc (.cells noF 216)) := by kernel_rfl
theorem noF_sizes (i : Nat) : noF.size = (fldA i).size := by rw [fldA_size]; rfl
theorem fld0_any (w : World) : Calls Tryz.prog 127 #[] w fun e w' => e = .returned (.agg (fldA 0)) ∧ Below w.heap.size w w' := by
  have HB := Keep.mk (Blk.new w 216 noF)
  have HW := Keep.mk (below_new w (.cells noF 216))
  go_enter Tryz.func127, Tryz.ntmps127
  go_wp2_with (first | (refine wpList_new rfl 216 rfl _ Tryz.new216 ?_) | (refine wpList_bld rfl 216 _ rfl (fldA 0) (by kernel_rfl) ?_; refine wpList_store_row rfl 216 (.tmp 0) (.tmp 1) rfl w.heap.size (fldA 0) rfl rfl 216 noF HB.out (Tryz.size216B 0) rfl (fldA_one 0) ?_))
  refine bodyPost_ret (v := .agg (fldA 0)) (results_cell1_row Tryz.results127 _ _ w.heap.size 216 _ (0, 0) _ rfl (HB.out.setRow _) Tryz.underlying216 rfl (Tryz.size216B 0)) rfl ?_
  exact ⟨rfl, below_setRow HW.out (Nat.le_refl _) _⟩
theorem fld1_any (w : World) : Calls Tryz.prog 128 #[] w fun e w' => e = .returned (.agg (fldA 1)) ∧ Below w.heap.size w w' := by
  have HB := Keep.mk (Blk.new w 216 noF)
  have HW := Keep.mk (below_new w (.cells noF 216))
  go_enter Tryz.func128, Tryz.ntmps128
  go_wp2_with (first | (refine wpList_new rfl 216 rfl _ Tryz.new216 ?_) | (refine wpList_bld rfl 216 _ rfl (fldA 1) (by kernel_rfl) ?_; refine wpList_store_row rfl 216 (.tmp 0) (.tmp 1) rfl w.heap.size (fldA 1) rfl rfl 216 noF HB.out (Tryz.size216B 1) rfl (fldA_one 1) ?_))
  refine bodyPost_ret (v := .agg (fldA 1)) (results_cell1_row Tryz.results128 _ _ w.heap.size 216 _ (0, 0) _ rfl (HB.out.setRow _) Tryz.underlying216 rfl (Tryz.size216B 1)) rfl ?_
  exact ⟨rfl, below_setRow HW.out (Nat.le_refl _) _⟩
theorem fld2_any (w : World) : Calls Tryz.prog 129 #[] w fun e w' => e = .returned (.agg (fldA 2)) ∧ Below w.heap.size w w' := by
  have HB := Keep.mk (Blk.new w 216 noF)
  have HW := Keep.mk (below_new w (.cells noF 216))
  go_enter Tryz.func129, Tryz.ntmps129
  go_wp2_with (first | (refine wpList_new rfl 216 rfl _ Tryz.new216 ?_) | (refine wpList_bld rfl 216 _ rfl (fldA 2) (by kernel_rfl) ?_; refine wpList_store_row rfl 216 (.tmp 0) (.tmp 1) rfl w.heap.size (fldA 2) rfl rfl 216 noF HB.out (Tryz.size216B 2) rfl (fldA_one 2) ?_))
  refine bodyPost_ret (v := .agg (fldA 2)) (results_cell1_row Tryz.results129 _ _ w.heap.size 216 _ (0, 0) _ rfl (HB.out.setRow _) Tryz.underlying216 rfl (Tryz.size216B 2)) rfl ?_
  exact ⟨rfl, below_setRow HW.out (Nat.le_refl _) _⟩
theorem fld3_any (w : World) : Calls Tryz.prog 130 #[] w fun e w' => e = .returned (.agg (fldA 3)) ∧ Below w.heap.size w w' := by
  have HB := Keep.mk (Blk.new w 216 noF)
  have HW := Keep.mk (below_new w (.cells noF 216))
  go_enter Tryz.func130, Tryz.ntmps130
  go_wp2_with (first | (refine wpList_new rfl 216 rfl _ Tryz.new216 ?_) | (refine wpList_bld rfl 216 _ rfl (fldA 3) (by kernel_rfl) ?_; refine wpList_store_row rfl 216 (.tmp 0) (.tmp 1) rfl w.heap.size (fldA 3) rfl rfl 216 noF HB.out (Tryz.size216B 3) rfl (fldA_one 3) ?_))
  refine bodyPost_ret (v := .agg (fldA 3)) (results_cell1_row Tryz.results130 _ _ w.heap.size 216 _ (0, 0) _ rfl (HB.out.setRow _) Tryz.underlying216 rfl (Tryz.size216B 3)) rfl ?_
  exact ⟨rfl, below_setRow HW.out (Nat.le_refl _) _⟩

def MapIs (w : World) (m : Nat) (ps : List (Int × Value)) : Prop :=
  ∃ es clock, w.heap[m]? = some (.map es clock) ∧ es.toList.map (fun e => (e.key, e.val)) = ps.map fun p => (Value.int .i64 p.1, p.2)
theorem MapIs.lt {w : World} {m : Nat} {ps : List (Int × Value)} (h : MapIs w m ps) : m < w.heap.size := by
  obtain ⟨es, clock, h1, _⟩ := h
  exact (Array.getElem?_eq_some_iff.1 h1).1
theorem MapIs.grown {w w' : World} {m : Nat} {ps : List (Int × Value)} {S : Nat → Prop} (h : MapIs w m ps) (hg : Grown w w' S) (hs : ¬ S m) : MapIs w' m ps := by
  have hlt := h.lt
  obtain ⟨es, clock, h1, h2⟩ := h
  exact ⟨es, clock, by rw [hg.block m hlt hs]; exact h1, h2⟩
theorem find_now (k : Int) : ∀ (es : List MapEntry) (ps : List (Int × Value)) (i : Nat), es.map (fun e => (e.key, e.val)) = ps.map (fun p => (Value.int .i64 p.1, p.2)) →
    ∃ r, Instr.findNow (.int .i64) (.int .i64 k) es i = some r ∧ r.map (·.2) = (ps.find? fun p => k == p.1).map (·.2)
  | [], [], i, _ => ⟨none, rfl, rfl⟩
  | [], p :: ps, i, h => by simp at h
  | e :: es, [], i, h => by simp at h
  | e :: es, p :: ps, i, h => by
    simp only [List.map_cons, List.cons.injEq, Prod.mk.injEq] at h
    obtain ⟨⟨h1, h2⟩, h3⟩ := h
    obtain ⟨r, h4, h5⟩ := find_now k es ps (i + 1) h3
    simp only [Instr.findNow, h1, Instr.sameNow, if_true]
    by_cases hk : k = p.1
    · subst hk
      simp only [beq_self_eq_true]
      exact ⟨_, rfl, by simp [h2]⟩
    · have hk' : (k == p.1) = false := by simpa using hk
      simp only [hk', List.find?_cons]
      exact ⟨r, h4, h5⟩
theorem run_findKey (k : Int) (es : List MapEntry) (ps : List (Int × Value)) (h : es.map (fun e => (e.key, e.val)) = ps.map (fun p => (Value.int .i64 p.1, p.2))) (w : World) :
    ∃ r, (Instr.findKey 3 (.int .i64 k) es).run Tryz.prog w = .ok r w ∧ r.map (·.2) = (ps.find? fun p => k == p.1).map (·.2) := by
  obtain ⟨r, h1, h2⟩ := find_now k es ps 0 h
  refine ⟨r, ?_, h2⟩
  unfold Instr.findKey
  simp only [Sem.run_bind, run_underlying Tryz.underlying3, Result.andThen_ok, h1, Sem.run_pure]
theorem check_key (b : Bool) (k : Int) (w : World) : (Instr.checkKey b 10000 3 (.int .i64 k)).run Tryz.prog w = .ok () w := by
  unfold Instr.checkKey
  simp only [Sem.run_bind, run_underlying Tryz.underlying3, Result.andThen_ok, Sem.run_pure]
theorem run_insert (w : World) (m : Nat) (ps : List (Int × Value)) (k : Int) (v : Value) (h : MapIs w m ps) (hk : ∀ p ∈ ps, p.1 ≠ k) :
    ∃ w', (Instr.mapUpdate 183 (.map (some m)) (.int .i64 k) v).run Tryz.prog w = .ok () w' ∧ MapIs w' m (ps ++ [(k, v)]) ∧ Grown w w' (fun j => j = m) ∧ w'.heap.size = w.heap.size := by
  have hlt := h.lt
  obtain ⟨es, clock, h1, h2⟩ := h
  obtain ⟨r, h3, h4⟩ := run_findKey k es.toList ps h2 w
  have hn : (ps.find? fun p => k == p.1) = none := by
    rw [List.find?_eq_none]
    intro p hp
    have := hk p hp
    simpa using fun e => this e.symm
  rw [hn] at h4
  obtain rfl : r = none := by cases r <;> simp_all
  refine ⟨ChangeMaps.setBlock w m (.map (es.push ⟨.int .i64 k, v, clock⟩) (clock + 1)), ?_, ⟨_, _, ChangeMaps.heap_setBlock_same h1 _, ?_⟩, ?_, ?_⟩
  · unfold Instr.mapUpdate
    simp only [Sem.run_bind, run_underlying Tryz.underlying183, Result.andThen_ok, getObj, Sem.run, h1, check_key, h3]
    simp [setObj, Sem.run, h1, ChangeMaps.setBlock]
  · simp [h2]
  · refine ⟨rfl, rfl, rfl, by simp [ChangeMaps.setBlock], fun j hj hne => ?_⟩
    simp only [ChangeMaps.setBlock]
    rw [Array.getElem?_setIfInBounds_ne (fun e => hne e.symm)]
  · simp [ChangeMaps.setBlock]
theorem wpList_ins {ops : Array Oper} {rest : List Oper} {o : Oper} {a : Act} {w : World} {Q : Exit → Act → World → Prop} (hg : o.guard = none) (x y z : Operand) (ho : o.op = .insert 183 x y z)
    (m : Nat) (ps : List (Int × Value)) (k : Int) (v : Value) (hx : a.eval x = .map (some m)) (hy : a.eval y = .int .i64 k) (hz : a.eval z = v) (h : MapIs w m ps) (hk : ∀ p ∈ ps, p.1 ≠ k)
    (hc : ∀ w', MapIs w' m (ps ++ [(k, v)]) → Grown w w' (fun j => j = m) → w'.heap.size = w.heap.size → wpList Tryz.prog ops Q rest (a.put o.dst undef) w') : wpList Tryz.prog ops Q (o :: rest) a w := by
  refine wpList_plain hg fun K hK => ?_
  obtain ⟨w', h1, h2, h3, h4⟩ := run_insert w m ps k v h hk
  unfold Oper.wp execOp
  simp only [ho, hx, hy, hz, Sem.run_bind, h1, Result.andThen_ok]
  exact hK _ _ (hc w' h2 h3 h4)
theorem run_look (w : World) (m : Nat) (ps : List (Int × Value)) (k : Int) (h : MapIs w m ps) (ok : Bool) :
    (Instr.lookup 183 (.map (some m)) (.int .i64 k) ok).run Tryz.prog w = .ok (if ok = true then .tuple #[((ps.find? fun p => k == p.1).map (·.2)).getD (.slice none 0 0), .bool (ps.find? fun p => k == p.1).isSome] else ((ps.find? fun p => k == p.1).map (·.2)).getD (.slice none 0 0)) w := by
  obtain ⟨es, clock, h1, h2⟩ := h
  obtain ⟨r, h3, h4⟩ := run_findKey k es.toList ps h2 w
  have hz : ∀ w : World, (zeroValue 218).run Tryz.prog w = .ok (.slice none 0 0) w := by intro w; kernel_rfl
  unfold Instr.lookup
  simp only [Sem.run_bind, run_underlying Tryz.underlying183, Result.andThen_ok, getObj, Sem.run, h1, check_key]
  rw [← h4]
  have h5 : (ps.find? fun p => k == p.1).isSome = r.isSome := by
    have := congrArg Option.isSome h4
    simpa using this.symm
  rw [h5]
  cases r with
  | none => rw [Sem.run_pure, Result.andThen_ok, h3]; simp [hz]
  | some q => rw [Sem.run_pure, Result.andThen_ok, h3]; simp

def hasI (k : Int) : List Nat := if k = 1 then [0, 1] else if k = 2 then [0] else if k = 3 then [0, 1] else if k = 4 then [0, 1] else if k = 5 then [0] else if k = 6 then [0, 2] else if k = 7 then [0] else if k = 8 then [0, 1, 3] else if k = 9 then [0, 3] else []
def flatF (is : List Nat) : Array Value := (is.flatMap fun i => (fldA i).toList).toArray
def FieldsAt (w : World) (v : Value) (is : List Nat) : Prop := (v = .slice none 0 0 ∧ is = []) ∨ ∃ g, v = .slice (some ⟨g, 0, none⟩) is.length is.length ∧ Blk w g 216 (flatF is)
theorem FieldsAt.grown {w w' : World} {v : Value} {is : List Nat} {S : Nat → Prop} (h : FieldsAt w v is) (hg : Grown w w' S) (hs : ∀ g, Blk w g 216 (flatF is) → ¬ S g) : FieldsAt w' v is := by
  rcases h with h | ⟨g, h1, h2⟩
  · exact .inl h
  · exact .inr ⟨g, h1, hg.blk h2 (hs g h2)⟩
structure TabAt (w : World) (m : Nat) : Prop where
  ex : ∃ V : Int → Value, MapIs w m ([1, 2, 3, 4, 5, 6, 7, 8, 9].map fun k => (k, V k)) ∧ ∀ k ∈ ([1, 2, 3, 4, 5, 6, 7, 8, 9] : List Int), FieldsAt w (V k) (hasI k)
theorem TabAt.lt {w : World} {m : Nat} (h : TabAt w m) : m < w.heap.size := by obtain ⟨V, h1, _⟩ := h.ex; exact h1.lt
theorem TabAt.grown {w w' : World} {m : Nat} {S : Nat → Prop} (h : TabAt w m) (hg : Grown w w' S) (hm : ¬ S m) (hs : ∀ g cs, Blk w g 216 cs → ¬ S g) : TabAt w' m := by
  obtain ⟨V, h1, h2⟩ := h.ex
  exact ⟨V, h1.grown hg hm, fun k hk => (h2 k hk).grown hg fun g hb => hs g _ hb⟩
theorem TabAt.below {w w' : World} {m : Nat} (h : TabAt w m) (hb : Below w.heap.size w w') : TabAt w' m :=
  h.grown (Grown.below (S := fun _ => False) hb) (fun h => h) fun _ _ _ h => h
theorem TabAt.ne {w : World} {m g : Nat} {T : TypeId} {cs : Array Value} (h : TabAt w m) (hg : Blk w g T cs) : m ≠ g := by
  rintro rfl
  obtain ⟨V, ⟨es, clock, h1, _⟩, _⟩ := h.ex
  unfold Blk at hg
  rw [hg] at h1
  cases h1
theorem hasI_none (k : Int) (h : k ∉ ([1, 2, 3, 4, 5, 6, 7, 8, 9] : List Int)) : hasI k = [] := by
  simp only [List.mem_cons, List.not_mem_nil, or_false, not_or] at h
  simp [hasI, h]
theorem hasI_some (k : Int) (h : k ∈ ([1, 2, 3, 4, 5, 6, 7, 8, 9] : List Int)) : hasI k ≠ [] := by
  simp only [List.mem_cons, List.not_mem_nil, or_false] at h
  rcases h with rfl | rfl | rfl | rfl | rfl | rfl | rfl | rfl | rfl <;> simp [hasI]
theorem find_tab (V : Int → Value) (k : Int) : (([1, 2, 3, 4, 5, 6, 7, 8, 9] : List Int).map fun k => (k, V k)).find? (fun p => k == p.1) = if k ∈ ([1, 2, 3, 4, 5, 6, 7, 8, 9] : List Int) then some (k, V k) else none := by
  rw [List.find?_map]
  by_cases h : k ∈ ([1, 2, 3, 4, 5, 6, 7, 8, 9] : List Int)
  · rw [if_pos h]
    have : (([1, 2, 3, 4, 5, 6, 7, 8, 9] : List Int).find? ((fun p : Int × Value => k == p.1) ∘ fun k => (k, V k))) = some k := by
      simp only [List.mem_cons, List.not_mem_nil, or_false] at h
      rcases h with rfl | rfl | rfl | rfl | rfl | rfl | rfl | rfl | rfl <;> rfl
    rw [this]; rfl
  · rw [if_neg h]
    have : (([1, 2, 3, 4, 5, 6, 7, 8, 9] : List Int).find? ((fun p : Int × Value => k == p.1) ∘ fun k => (k, V k))) = none := by
      rw [List.find?_eq_none]
      intro x hx hk
      have e : k = x := by simpa using hk
      exact h (e ▸ hx)
    rw [this]; rfl
theorem TabAt.look {w : World} {m : Nat} (h : TabAt w m) (k : Int) : ∃ v, FieldsAt w v (hasI k) ∧
    (Instr.lookup 183 (.map (some m)) (.int .i64 k) false).run Tryz.prog w = .ok v w ∧ (Instr.lookup 183 (.map (some m)) (.int .i64 k) true).run Tryz.prog w = .ok (.tuple #[v, .bool (!(hasI k).isEmpty)]) w := by
  obtain ⟨V, h1, h2⟩ := h.ex
  have h3 := run_look w m _ k h1
  rw [find_tab] at h3
  by_cases hk : k ∈ ([1, 2, 3, 4, 5, 6, 7, 8, 9] : List Int)
  · refine ⟨V k, h2 k hk, by rw [h3, if_pos hk]; rfl, ?_⟩
    have : (hasI k).isEmpty = false := by simpa using hasI_some k hk
    rw [h3, if_pos hk, this]; rfl
  · refine ⟨.slice none 0 0, .inl ⟨rfl, hasI_none k hk⟩, by rw [h3, if_neg hk]; rfl, ?_⟩
    rw [h3, if_neg hk, hasI_none k hk]; rfl
theorem bs1 (w : World) : (Instr.buildSlice 218 2 #[(0, .agg (fldA 0)), (1, .agg (fldA 1))]).run Tryz.prog w = .ok (.slice (some ⟨w.heap.size, 0, none⟩) 2 2) (w.alloc (.cells (flatF (hasI 1)) 216)) := by kernel_rfl
theorem bs2 (w : World) : (Instr.buildSlice 218 1 #[(0, .agg (fldA 0))]).run Tryz.prog w = .ok (.slice (some ⟨w.heap.size, 0, none⟩) 1 1) (w.alloc (.cells (flatF (hasI 2)) 216)) := by kernel_rfl
theorem bs3 (w : World) : (Instr.buildSlice 218 2 #[(0, .agg (fldA 0)), (1, .agg (fldA 1))]).run Tryz.prog w = .ok (.slice (some ⟨w.heap.size, 0, none⟩) 2 2) (w.alloc (.cells (flatF (hasI 3)) 216)) := by kernel_rfl
theorem bs4 (w : World) : (Instr.buildSlice 218 2 #[(0, .agg (fldA 0)), (1, .agg (fldA 1))]).run Tryz.prog w = .ok (.slice (some ⟨w.heap.size, 0, none⟩) 2 2) (w.alloc (.cells (flatF (hasI 4)) 216)) := by kernel_rfl
theorem bs5 (w : World) : (Instr.buildSlice 218 1 #[(0, .agg (fldA 0))]).run Tryz.prog w = .ok (.slice (some ⟨w.heap.size, 0, none⟩) 1 1) (w.alloc (.cells (flatF (hasI 5)) 216)) := by kernel_rfl
theorem bs6 (w : World) : (Instr.buildSlice 218 2 #[(0, .agg (fldA 0)), (1, .agg (fldA 2))]).run Tryz.prog w = .ok (.slice (some ⟨w.heap.size, 0, none⟩) 2 2) (w.alloc (.cells (flatF (hasI 6)) 216)) := by kernel_rfl
theorem bs7 (w : World) : (Instr.buildSlice 218 1 #[(0, .agg (fldA 0))]).run Tryz.prog w = .ok (.slice (some ⟨w.heap.size, 0, none⟩) 1 1) (w.alloc (.cells (flatF (hasI 7)) 216)) := by kernel_rfl
theorem bs8 (w : World) : (Instr.buildSlice 218 3 #[(0, .agg (fldA 0)), (1, .agg (fldA 1)), (2, .agg (fldA 3))]).run Tryz.prog w = .ok (.slice (some ⟨w.heap.size, 0, none⟩) 3 3) (w.alloc (.cells (flatF (hasI 8)) 216)) := by kernel_rfl
theorem bs9 (w : World) : (Instr.buildSlice 218 2 #[(0, .agg (fldA 0)), (1, .agg (fldA 3))]).run Tryz.prog w = .ok (.slice (some ⟨w.heap.size, 0, none⟩) 2 2) (w.alloc (.cells (flatF (hasI 9)) 216)) := by kernel_rfl

structure TS (w0 : World) (b : Nat) (V : Int → Value) (ks : List Int) (w : World) : Prop where
  fld : ∀ i, i < 4 → Blk w (b + i) 216 (fldA i)
  map : MapIs w (b + 4) (ks.map fun k => (k, V k))
  has : ∀ k ∈ ks, FieldsAt w (V k) (hasI k)
  lo : w0.heap.size ≤ b
  below : Below w0.heap.size w0 w
theorem TS.alloc {w0 : World} {b : Nat} {V : Int → Value} {ks : List Int} {w : World} (h : TS w0 b V ks w) (o : Obj) : TS w0 b V ks (w.alloc o) where
  fld i hi := (h.fld i hi).alloc o
  map := h.map.grown (Grown.alloc w o fun _ => False) (fun h => h)
  has k hk := (h.has k hk).grown (Grown.alloc w o fun _ => False) fun _ _ h => h
  lo := h.lo
  below := h.below.trans (Below.mono (below_new w o) h.below.size)
theorem map_blk {w : World} {m g : Nat} {T : TypeId} {cs : Array Value} {ps : List (Int × Value)} (h : MapIs w m ps) (hg : Blk w g T cs) : g ≠ m := by
  rintro rfl
  obtain ⟨es, clock, h1, _⟩ := h
  unfold Blk at hg
  rw [hg] at h1
  cases h1
theorem TS.put {w0 : World} {b : Nat} {V : Int → Value} {ks : List Int} {w w' : World} (h : TS w0 b V ks w) (k : Int) (v : Value) (hk : k ∉ ks) (hv : FieldsAt w v (hasI k)) (hm : MapIs w' (b + 4) ((ks.map fun k => (k, V k)) ++ [(k, v)])) (hg : Grown w w' fun j => j = b + 4) :
    TS w0 b (fun j => if j = k then v else V j) (ks ++ [k]) w' where
  fld i hi := hg.blk (h.fld i hi) (map_blk h.map (h.fld i hi))
  map := by
    have e : (ks ++ [k]).map (fun j => (j, (if j = k then v else V j))) = (ks.map fun k => (k, V k)) ++ [(k, v)] := by
      simp only [List.map_append, List.map_cons, List.map_nil, if_true]
      congr 1
      apply List.map_congr_left
      intro j hj
      have hjk : j ≠ k := fun e => hk (e ▸ hj)
      rw [if_neg hjk]
    rw [e]; exact hm
  has j hj := by
    rcases List.mem_append.1 hj with hj | hj
    · have : j ≠ k := fun e => hk (e ▸ hj)
      rw [if_neg this]
      exact (h.has j hj).grown hg fun g hb e => map_blk h.map hb e
    · simp at hj
      subst hj
      rw [if_pos rfl]
      exact hv.grown hg fun g hb e => map_blk h.map hb e
  lo := h.lo
  below := ⟨hg.os.trans h.below.os, hg.tape.trans h.below.tape, hg.output.trans h.below.output, Nat.le_trans h.below.size hg.size, fun i hi => by
    rw [hg.block i (Nat.lt_of_lt_of_le hi h.below.size) (by have := h.lo; omega)]; exact h.below.block i hi⟩
theorem fields_row (w : World) (k : Int) (n : Nat) (hn : (hasI k).length = n) : FieldsAt (w.alloc (.cells (flatF (hasI k)) 216)) (.slice (some ⟨w.heap.size, 0, none⟩) n n) (hasI k) :=
  .inr ⟨w.heap.size, by rw [hn], Blk.new w 216 _⟩
theorem TS.start {w0 w : World} (b : Nat) (hb : b + 4 = w.heap.size) (hf : ∀ i, i < 4 → Blk w (b + i) 216 (fldA i)) (lo : w0.heap.size ≤ b) (hB : Below w0.heap.size w0 w) : TS w0 b (fun _ => .nilFunc) [] (w.alloc (.map #[] 0)) where
  fld i hi := (hf i hi).alloc _
  map := ⟨#[], 0, by rw [hb]; exact heap_alloc_new w _, rfl⟩
  has k hk := by simp at hk
  lo := lo
  below := hB.trans (Below.mono (below_new w _) hB.size)
theorem TS.fin {w0 : World} {b : Nat} {V : Int → Value} {w : World} (h : TS w0 b V [1, 2, 3, 4, 5, 6, 7, 8, 9] w) : TabAt w (b + 4) := ⟨V, h.map, h.has⟩
theorem Tryz.newmap (w : World) : (Instr.makeMap 183 none).run Tryz.prog w = .ok (.map (some w.heap.size)) (w.alloc (.map #[] 0)) := by kernel_rfl
end Go.Proofs.YtdkhjeofjhcceaaGreatDoor.Nd
namespace Go.Proofs.YtdkhjeofjhcceaaGreatDoor.Nd
open Go.RowKit

theorem wpList_mkmap {ops : Array Oper} {rest : List Oper} {o : Oper} {a : Act} {w : World} {Q : Exit → Act → World → Prop} (hg : o.guard = none) (ho : o.op = .makeMap 183 none)
    (h : wpList Tryz.prog ops Q rest (a.put o.dst (.map (some w.heap.size))) (w.alloc (.map #[] 0))) : wpList Tryz.prog ops Q (o :: rest) a w := by
  refine wpList_plain hg fun K hK => ?_
  unfold Oper.wp execOp
  have := Tryz.newmap w
  simp only [ho, Option.map_none, Sem.run_bind, this, Result.andThen_ok]
  exact hK _ _ h
theorem wpList_bs {P : Program} {ops : Array Oper} {rest : List Oper} {o : Oper} {a : Act} {w : World} {Q : Exit → Act → World → Prop} (hg : o.guard = none) (t : TypeId) (n : Nat) (parts : Array (Nat × Operand)) (ho : o.op = .buildSlice t n parts)
    (vs : Array (Nat × Value)) (hv : (parts.map fun (i, x) => (i, a.eval x)) = vs) (v : Value) (w' : World) (hrun : (Instr.buildSlice t n vs).run P w = .ok v w')
    (h : wpList P ops Q rest (a.put o.dst v) w') : wpList P ops Q (o :: rest) a w := by
  refine wpList_plain hg fun K hK => ?_
  unfold Oper.wp execOp
  simp only [ho, hv, Sem.run_bind, hrun, Result.andThen_ok]
  exact hK _ _ h
theorem not_in (V : Int → Value) (ks : List Int) (k : Int) (h : k ∉ ks) : ∀ p ∈ ks.map (fun k => (k, V k)), p.1 ≠ k := by
  intro p hp e
  obtain ⟨j, hj, rfl⟩ := List.mem_map.1 hp
  exact h (e ▸ hj)
theorem four_new (w : World) : (∀ i, i < 4 → Blk ((((w.alloc (.cells noF 216)).alloc (.cells noF 216)).alloc (.cells noF 216)).alloc (.cells noF 216)) (w.heap.size + i) 216 noF) ∧ ((((w.alloc (.cells noF 216)).alloc (.cells noF 216)).alloc (.cells noF 216)).alloc (.cells noF 216)).heap.size = w.heap.size + 4 ∧ Below w.heap.size w ((((w.alloc (.cells noF 216)).alloc (.cells noF 216)).alloc (.cells noF 216)).alloc (.cells noF 216)) := by
  refine ⟨fun i hi => ?_, by simp, (((below_new w _).alloc (by simp) _).alloc (by simp; omega) _).alloc (by simp; omega) _⟩
  have h0 := (((Blk.new w 216 noF).alloc (.cells noF 216)).alloc (.cells noF 216)).alloc (.cells noF 216)
  have h1 := ((Blk.new (w.alloc (.cells noF 216)) 216 noF).alloc (.cells noF 216)).alloc (.cells noF 216)
  have h2 := (Blk.new ((w.alloc (.cells noF 216)).alloc (.cells noF 216)) 216 noF).alloc (.cells noF 216)
  have h3 := Blk.new (((w.alloc (.cells noF 216)).alloc (.cells noF 216)).alloc (.cells noF 216)) 216 noF
  simp only [World.size_alloc] at h1 h2 h3
  match i, hi with
  | 0, _ => exact h0
  | 1, _ => exact h1
  | 2, _ => exact h2
  | 3, _ => exact h3
set_option maxRecDepth 8000 in
set_option maxHeartbeats 2000000 in
theorem tab_any (w : World) : Calls Tryz.prog 110 #[] w fun e w' => ∃ m, e = .returned (.map (some m)) ∧ TabAt w' m ∧ w.heap.size ≤ m ∧ Below w.heap.size w w' := by
  go_enter Tryz.func110, Tryz.ntmps110
  go_wp2_with fail
  refine (fld0_any w).mono ?_
  rintro e w1 ⟨rfl, h1⟩
  have H1 := Keep.mk h1
  clear h1
  go_wp2_with fail
  refine (fld1_any w1).mono ?_
  rintro e w2 ⟨rfl, h2⟩
  have H2 := Keep.mk (H1.out.trans (h2.mono H1.out.size))
  clear h2 H1
  go_wp2_with fail
  refine (fld2_any w2).mono ?_
  rintro e w3 ⟨rfl, h3⟩
  have H3 := Keep.mk (H2.out.trans (h3.mono H2.out.size))
  clear h3 H2
  go_wp2_with fail
  refine (fld3_any w3).mono ?_
  rintro e w4 ⟨rfl, h4⟩
  have H4 := Keep.mk (H3.out.trans (h4.mono H3.out.size))
  clear h4 H3
  clear w1 w2 w3
  go_wp2_with (first | (refine wpList_new rfl 216 rfl _ Tryz.new216 ?_; refine wpList_new rfl 216 rfl _ Tryz.new216 ?_; refine wpList_new rfl 216 rfl _ Tryz.new216 ?_; refine wpList_new rfl 216 rfl _ Tryz.new216 ?_; refine Hid.out ?_))
  refine hid_in ?_
  have HF := Keep.mk (four_new w4)
  have HLo := Keep.mk H4.out.size
  generalize (((w4.alloc (.cells noF 216)).alloc (.cells noF 216)).alloc (.cells noF 216)).alloc (.cells noF 216) = wA at *
  refine wpList_store_row rfl 216 (.tmp 1) (.tmp 5) rfl w4.heap.size (fldA 0) rfl rfl 216 noF (HF.out.1 0 (by omega)) (Tryz.size216B 0) (noF_sizes 0).symm (fldA_one 0) ?_
  refine wpList_store_row rfl 216 (.tmp 2) (.tmp 6) rfl (w4.heap.size + 1) (fldA 1) rfl rfl 216 noF ((HF.out.1 1 (by omega)).setRow_ne (by omega) _) (Tryz.size216B 1) (noF_sizes 1).symm (fldA_one 1) ?_
  refine wpList_store_row rfl 216 (.tmp 3) (.tmp 7) rfl (w4.heap.size + 2) (fldA 2) rfl rfl 216 noF (((HF.out.1 2 (by omega)).setRow_ne (by omega) _).setRow_ne (by omega) _) (Tryz.size216B 2) (noF_sizes 2).symm (fldA_one 2) ?_
  refine wpList_store_row rfl 216 (.tmp 4) (.tmp 8) rfl (w4.heap.size + 3) (fldA 3) rfl rfl 216 noF ((((HF.out.1 3 (by omega)).setRow_ne (by omega) _).setRow_ne (by omega) _).setRow_ne (by omega) _) (Tryz.size216B 3) (noF_sizes 3).symm (fldA_one 3) ?_
  have HG : Keep (∀ i, i < 4 → Blk ((((wA.setRow w4.heap.size (fldA 0)).setRow (w4.heap.size + 1) (fldA 1)).setRow (w4.heap.size + 2) (fldA 2)).setRow (w4.heap.size + 3) (fldA 3)) (w4.heap.size + i) 216 (fldA i)) := ⟨fun i hi => by
    match i, hi with
    | 0, _ => exact ((((HF.out.1 0 (by omega)).setRow _).setRow_ne (by omega) _).setRow_ne (by omega) _).setRow_ne (by omega) _
    | 1, _ => exact ((((HF.out.1 1 (by omega)).setRow_ne (by omega) _).setRow _).setRow_ne (by omega) _).setRow_ne (by omega) _
    | 2, _ => exact ((((HF.out.1 2 (by omega)).setRow_ne (by omega) _).setRow_ne (by omega) _).setRow _).setRow_ne (by omega) _
    | 3, _ => exact ((((HF.out.1 3 (by omega)).setRow_ne (by omega) _).setRow_ne (by omega) _).setRow_ne (by omega) _).setRow _⟩
  have HS : Keep (((((wA.setRow w4.heap.size (fldA 0)).setRow (w4.heap.size + 1) (fldA 1)).setRow (w4.heap.size + 2) (fldA 2)).setRow (w4.heap.size + 3) (fldA 3)).heap.size = w4.heap.size + 4) := ⟨by simp [HF.out.2.1]⟩
  have HB : Keep (Below w.heap.size w ((((wA.setRow w4.heap.size (fldA 0)).setRow (w4.heap.size + 1) (fldA 1)).setRow (w4.heap.size + 2) (fldA 2)).setRow (w4.heap.size + 3) (fldA 3))) :=
    ⟨below_setRow (below_setRow (below_setRow (below_setRow (H4.out.trans (HF.out.2.2.mono HLo.out)) HLo.out _) (by have := HLo.out; omega) _) (by have := HLo.out; omega) _) (by have := HLo.out; omega) _⟩
  generalize (((wA.setRow w4.heap.size (fldA 0)).setRow (w4.heap.size + 1) (fldA 1)).setRow (w4.heap.size + 2) (fldA 2)).setRow (w4.heap.size + 3) (fldA 3) = w5 at *
  obtain ⟨b, hb⟩ : ∃ b, b = w4.heap.size := ⟨_, rfl⟩
  have HT := Keep.mk (TS.start b (by rw [hb]; exact HS.out.symm) (by rw [hb]; exact HG.out) (by rw [hb]; exact HLo.out) HB.out)
  have Hsz : Keep (w5.heap.size = b + 4) := ⟨by rw [hb]; exact HS.out⟩
  rw [← hb]
  clear HG HB HF H4 HLo HS hb wA w4
  go_wp2_with (first | (refine wpList_mkmap rfl rfl ?_; refine Hid.out ?_))
  refine hid_in ?_
  rw [Hsz.out]
  generalize w5.alloc (.map #[] 0) = w6 at *
  clear Hsz w5
  refine wpList_load_row rfl 216 (.tmp 1) rfl b rfl 216 (fldA 0) (0, 0) _ (HT.out.fld 0 (by omega)) Tryz.underlying216 rfl (Tryz.size216B 0) ?_
  refine wpList_load_row rfl 216 (.tmp 2) rfl (b + 1) rfl 216 (fldA 1) (0, 0) _ (HT.out.fld 1 (by omega)) Tryz.underlying216 rfl (Tryz.size216B 1) ?_
  simp only [Act.put, List.setIfInBounds_toArray, List.set_cons_zero, List.set_cons_succ]
  refine wpList_bs rfl 218 2 _ rfl #[(0, .agg (fldA 0)), (1, .agg (fldA 1))] (by simp [Act.eval]) _ _ (bs1 _) ?_
  refine wpList_ins rfl (.tmp 9) _ (.tmp 12) rfl (b + 4) _ 1 _ rfl rfl rfl (HT.out.alloc (.cells (flatF (hasI 1)) 216)).map (not_in _ _ _ (by decide)) ?_
  intro w7 hm hg hs
  have HT1 := Keep.mk ((HT.out.alloc (.cells (flatF (hasI 1)) 216)).put 1 _ (by decide) (fields_row w6 1 2 rfl) hm hg)
  clear hm hg hs HT
  rename Keep (TS _ _ _ _ w7) => HT
  refine wpList_load_row rfl 216 (.tmp 1) rfl b rfl 216 (fldA 0) (0, 0) _ (HT.out.fld 0 (by omega)) Tryz.underlying216 rfl (Tryz.size216B 0) ?_
  simp only [Act.put, List.setIfInBounds_toArray, List.set_cons_zero, List.set_cons_succ]
  refine wpList_bs rfl 218 1 _ rfl #[(0, .agg (fldA 0))] (by simp [Act.eval]) _ _ (bs2 _) ?_
  refine wpList_ins rfl (.tmp 9) _ (.tmp 14) rfl (b + 4) _ 2 _ rfl rfl rfl (HT.out.alloc (.cells (flatF (hasI 2)) 216)).map (not_in _ _ _ (by decide)) ?_
  intro w8 hm hg hs
  have HT2 := Keep.mk ((HT.out.alloc (.cells (flatF (hasI 2)) 216)).put 2 _ (by decide) (fields_row w7 2 1 rfl) hm hg)
  clear hm hg hs HT
  rename Keep (TS _ _ _ _ w8) => HT
  refine wpList_load_row rfl 216 (.tmp 1) rfl b rfl 216 (fldA 0) (0, 0) _ (HT.out.fld 0 (by omega)) Tryz.underlying216 rfl (Tryz.size216B 0) ?_
  refine wpList_load_row rfl 216 (.tmp 2) rfl (b + 1) rfl 216 (fldA 1) (0, 0) _ (HT.out.fld 1 (by omega)) Tryz.underlying216 rfl (Tryz.size216B 1) ?_
  simp only [Act.put, List.setIfInBounds_toArray, List.set_cons_zero, List.set_cons_succ]
  refine wpList_bs rfl 218 2 _ rfl #[(0, .agg (fldA 0)), (1, .agg (fldA 1))] (by simp [Act.eval]) _ _ (bs3 _) ?_
  refine wpList_ins rfl (.tmp 9) _ (.tmp 17) rfl (b + 4) _ 3 _ rfl rfl rfl (HT.out.alloc (.cells (flatF (hasI 3)) 216)).map (not_in _ _ _ (by decide)) ?_
  intro w9 hm hg hs
  have HT3 := Keep.mk ((HT.out.alloc (.cells (flatF (hasI 3)) 216)).put 3 _ (by decide) (fields_row w8 3 2 rfl) hm hg)
  clear hm hg hs HT
  rename Keep (TS _ _ _ _ w9) => HT
  refine wpList_load_row rfl 216 (.tmp 1) rfl b rfl 216 (fldA 0) (0, 0) _ (HT.out.fld 0 (by omega)) Tryz.underlying216 rfl (Tryz.size216B 0) ?_
  refine wpList_load_row rfl 216 (.tmp 2) rfl (b + 1) rfl 216 (fldA 1) (0, 0) _ (HT.out.fld 1 (by omega)) Tryz.underlying216 rfl (Tryz.size216B 1) ?_
  simp only [Act.put, List.setIfInBounds_toArray, List.set_cons_zero, List.set_cons_succ]
  refine wpList_bs rfl 218 2 _ rfl #[(0, .agg (fldA 0)), (1, .agg (fldA 1))] (by simp [Act.eval]) _ _ (bs4 _) ?_
  refine wpList_ins rfl (.tmp 9) _ (.tmp 20) rfl (b + 4) _ 4 _ rfl rfl rfl (HT.out.alloc (.cells (flatF (hasI 4)) 216)).map (not_in _ _ _ (by decide)) ?_
  intro w10 hm hg hs
  have HT4 := Keep.mk ((HT.out.alloc (.cells (flatF (hasI 4)) 216)).put 4 _ (by decide) (fields_row w9 4 2 rfl) hm hg)
  clear hm hg hs HT
  rename Keep (TS _ _ _ _ w10) => HT
  refine wpList_load_row rfl 216 (.tmp 1) rfl b rfl 216 (fldA 0) (0, 0) _ (HT.out.fld 0 (by omega)) Tryz.underlying216 rfl (Tryz.size216B 0) ?_
  simp only [Act.put, List.setIfInBounds_toArray, List.set_cons_zero, List.set_cons_succ]
  refine wpList_bs rfl 218 1 _ rfl #[(0, .agg (fldA 0))] (by simp [Act.eval]) _ _ (bs5 _) ?_
  refine wpList_ins rfl (.tmp 9) _ (.tmp 22) rfl (b + 4) _ 5 _ rfl rfl rfl (HT.out.alloc (.cells (flatF (hasI 5)) 216)).map (not_in _ _ _ (by decide)) ?_
  intro w11 hm hg hs
  have HT5 := Keep.mk ((HT.out.alloc (.cells (flatF (hasI 5)) 216)).put 5 _ (by decide) (fields_row w10 5 1 rfl) hm hg)
  clear hm hg hs HT
  rename Keep (TS _ _ _ _ w11) => HT
  refine wpList_load_row rfl 216 (.tmp 1) rfl b rfl 216 (fldA 0) (0, 0) _ (HT.out.fld 0 (by omega)) Tryz.underlying216 rfl (Tryz.size216B 0) ?_
  refine wpList_load_row rfl 216 (.tmp 3) rfl (b + 2) rfl 216 (fldA 2) (0, 0) _ (HT.out.fld 2 (by omega)) Tryz.underlying216 rfl (Tryz.size216B 2) ?_
  simp only [Act.put, List.setIfInBounds_toArray, List.set_cons_zero, List.set_cons_succ]
  refine wpList_bs rfl 218 2 _ rfl #[(0, .agg (fldA 0)), (1, .agg (fldA 2))] (by simp [Act.eval]) _ _ (bs6 _) ?_
  refine wpList_ins rfl (.tmp 9) _ (.tmp 25) rfl (b + 4) _ 6 _ rfl rfl rfl (HT.out.alloc (.cells (flatF (hasI 6)) 216)).map (not_in _ _ _ (by decide)) ?_
  intro w12 hm hg hs
  have HT6 := Keep.mk ((HT.out.alloc (.cells (flatF (hasI 6)) 216)).put 6 _ (by decide) (fields_row w11 6 2 rfl) hm hg)
  clear hm hg hs HT
  rename Keep (TS _ _ _ _ w12) => HT
  refine wpList_load_row rfl 216 (.tmp 1) rfl b rfl 216 (fldA 0) (0, 0) _ (HT.out.fld 0 (by omega)) Tryz.underlying216 rfl (Tryz.size216B 0) ?_
  simp only [Act.put, List.setIfInBounds_toArray, List.set_cons_zero, List.set_cons_succ]
  refine wpList_bs rfl 218 1 _ rfl #[(0, .agg (fldA 0))] (by simp [Act.eval]) _ _ (bs7 _) ?_
  refine wpList_ins rfl (.tmp 9) _ (.tmp 27) rfl (b + 4) _ 7 _ rfl rfl rfl (HT.out.alloc (.cells (flatF (hasI 7)) 216)).map (not_in _ _ _ (by decide)) ?_
  intro w13 hm hg hs
  have HT7 := Keep.mk ((HT.out.alloc (.cells (flatF (hasI 7)) 216)).put 7 _ (by decide) (fields_row w12 7 1 rfl) hm hg)
  clear hm hg hs HT
  rename Keep (TS _ _ _ _ w13) => HT
  refine wpList_load_row rfl 216 (.tmp 1) rfl b rfl 216 (fldA 0) (0, 0) _ (HT.out.fld 0 (by omega)) Tryz.underlying216 rfl (Tryz.size216B 0) ?_
  refine wpList_load_row rfl 216 (.tmp 2) rfl (b + 1) rfl 216 (fldA 1) (0, 0) _ (HT.out.fld 1 (by omega)) Tryz.underlying216 rfl (Tryz.size216B 1) ?_
  refine wpList_load_row rfl 216 (.tmp 4) rfl (b + 3) rfl 216 (fldA 3) (0, 0) _ (HT.out.fld 3 (by omega)) Tryz.underlying216 rfl (Tryz.size216B 3) ?_
  simp only [Act.put, List.setIfInBounds_toArray, List.set_cons_zero, List.set_cons_succ]
  refine wpList_bs rfl 218 3 _ rfl #[(0, .agg (fldA 0)), (1, .agg (fldA 1)), (2, .agg (fldA 3))] (by simp [Act.eval]) _ _ (bs8 _) ?_
  refine wpList_ins rfl (.tmp 9) _ (.tmp 31) rfl (b + 4) _ 8 _ rfl rfl rfl (HT.out.alloc (.cells (flatF (hasI 8)) 216)).map (not_in _ _ _ (by decide)) ?_
  intro w14 hm hg hs
  have HT8 := Keep.mk ((HT.out.alloc (.cells (flatF (hasI 8)) 216)).put 8 _ (by decide) (fields_row w13 8 3 rfl) hm hg)
  clear hm hg hs HT
  rename Keep (TS _ _ _ _ w14) => HT
  refine wpList_load_row rfl 216 (.tmp 1) rfl b rfl 216 (fldA 0) (0, 0) _ (HT.out.fld 0 (by omega)) Tryz.underlying216 rfl (Tryz.size216B 0) ?_
  refine wpList_load_row rfl 216 (.tmp 4) rfl (b + 3) rfl 216 (fldA 3) (0, 0) _ (HT.out.fld 3 (by omega)) Tryz.underlying216 rfl (Tryz.size216B 3) ?_
  simp only [Act.put, List.setIfInBounds_toArray, List.set_cons_zero, List.set_cons_succ]
  refine wpList_bs rfl 218 2 _ rfl #[(0, .agg (fldA 0)), (1, .agg (fldA 3))] (by simp [Act.eval]) _ _ (bs9 _) ?_
  refine wpList_ins rfl (.tmp 9) _ (.tmp 34) rfl (b + 4) _ 9 _ rfl rfl rfl (HT.out.alloc (.cells (flatF (hasI 9)) 216)).map (not_in _ _ _ (by decide)) ?_
  intro w15 hm hg hs
  have HT9 := Keep.mk ((HT.out.alloc (.cells (flatF (hasI 9)) 216)).put 9 _ (by decide) (fields_row w14 9 2 rfl) hm hg)
  clear hm hg hs HT
  rename Keep (TS _ _ _ _ w15) => HT
  go_wp2
  go_ret
  exact ⟨b + 4, rfl, HT.out.fin, by have := HT.out.lo; omega, HT.out.below⟩
end Go.Proofs.YtdkhjeofjhcceaaGreatDoor.Nd
namespace Go.Proofs.YtdkhjeofjhcceaaGreatDoor.Nd
open Go.RowKit

def OpsAt (w : World) (v : Value) (l : List OpV) : Prop :=
  (∃ a c, v = .slice a 0 c ∧ l = []) ∨ ∃ b off cap, v = .slice (some ⟨b, off, none⟩) l.length cap ∧ l.length ≤ cap ∧ ∀ i x, l[i]? = some x → w.rangeAt b (off + i * 37) (opL x)
theorem OpsAt.form {w : World} {v : Value} {l : List OpV} (h : OpsAt w v l) : ∃ a c, v = .slice a l.length c := by
  rcases h with ⟨a, c, rfl, rfl⟩ | ⟨b, off, cap, rfl, _⟩
  · exact ⟨_, _, rfl⟩
  · exact ⟨_, _, rfl⟩
theorem range_lt {w : World} {b o : Nat} {cs : List Value} (h : w.rangeAt b o cs) (h0 : 0 < cs.length) : b < w.heap.size := by
  have := h 0 cs[0] (by simp)
  exact cell_lt this
theorem range_grown {w w' : World} {b o : Nat} {cs : List Value} {S : Nat → Prop} (h : w.rangeAt b o cs) (hg : Grown w w' S) (hs : ¬ S b) : w'.rangeAt b o cs := fun j v hv => hg.cell (h j v hv) hs
theorem OpsAt.grown {w w' : World} {v : Value} {l : List OpV} {S : Nat → Prop} (h : OpsAt w v l) (hg : Grown w w' S) (hs : ∀ b, v.ownBlock = some b → b < w.heap.size → ¬ S b) : OpsAt w' v l := by
  rcases h with h | ⟨b, off, cap, rfl, h2, h3⟩
  · exact .inl h
  · refine .inr ⟨b, off, cap, rfl, h2, fun i x hx => range_grown (h3 i x hx) hg (hs b rfl ?_)⟩
    exact range_lt (h3 i x hx) (by rw [opL_len]; omega)
theorem OpsAt.below {w w' : World} {v : Value} {l : List OpV} (h : OpsAt w v l) (hb : Below w.heap.size w w') : OpsAt w' v l :=
  h.grown (Grown.below (S := fun _ => False) hb) fun _ _ _ h => h
theorem OpsAt.at {w : World} {a : Option Addr} {n c : Nat} {l : List OpV} (h : OpsAt w (.slice a n c) l) {t : Nat} (ht : t < l.length) :
    ∃ b off, a = some ⟨b, off, none⟩ ∧ w.rangeAt b (off + t * 37) (opL (l.getD t zeroOp)) := by
  rcases h with ⟨_, _, _, rfl⟩ | ⟨b, off, cap, e, h2, h3⟩
  · simp at ht
  · injection e with e1 e2 e3
    refine ⟨b, off, e1, h3 t _ ?_⟩
    simp [List.getD_eq_getElem?_getD, ht]
theorem run_eql31L (c e : List Int) (o p : Int) (w : World) : (binOp .eql 186 (.agg (idL c o).toArray) (.agg (idA e p))).run Tryz.prog w = .ok (.bool (nd c e && o == p)) w := run_eql31 c e o p w
theorem run_neqHL (c e : List Int) (w : World) : (binOp .neq 50 (.agg (bytesA 32 (hof c)).toList.toArray) (.agg (bytesA 32 (hof e)))).run Tryz.prog w = .ok (.bool (!nd c e)) w := by rw [Array.toArray_toList]; exact run_neqH c e w

def mayAt (l : List OpV) (x : OpV) : Bool :=
  if (nd x.node z32 && x.op == 0) = true then x.kind == 8
  else if nd x.node z32 = false then decide (1 ≤ x.op) && decide (x.op ≤ 1024)
  else if x.op < 1 ∨ (l.length : Int) < x.op then false
  else (l.getD (x.op - 1).toNat zeroOp).kind == 8 && (l.getD (x.op - 1).toNat zeroOp).key == x.key

structure OpOk (x : OpV) : Prop where
  node : x.node.length = 32
  byts : Byts x.node
  k1 : -9223372036854775808 ≤ x.kind
  k2 : x.kind ≤ 9223372036854775807
  n1 : -9223372036854775808 ≤ x.n
  n2 : x.n ≤ 9223372036854775807
  o1 : -9223372036854775808 ≤ x.op
  o2 : x.op ≤ 9223372036854775807
  key : x.key.size ≤ 140737488355328
  text : x.text.size ≤ 140737488355328

set_option maxRecDepth 8000 in
set_option maxHeartbeats 1000000 in
theorem may_any (x : OpV) (v : Value) (l : List OpV) (w : World) (hx : OpOk x) (hl : OpsAt w v l) (hb : l.length ≤ 4398046511104) :
    Calls Tryz.prog 155 #[.agg (opA x), v] w fun e w' => e = .returned (.bool (mayAt l x)) ∧ Below w.heap.size w w' := by
  obtain ⟨va, vc, rfl⟩ := hl.form
  have HL := Keep.mk hl
  have HB := Keep.mk (Blk.new w 188 (opA x))
  have HW := Keep.mk (below_new w (.cells (opA x) 188))
  have HR : Keep ((w.alloc (.cells (opA x) 188)).rangeAt w.heap.size 4 (idL x.node x.op)) := ⟨fun j v hv => by
    rw [HB.out.cell]; unfold opA; rw [List.getElem?_toArray, ← List.getElem?_drop, opL_at]; exact hv⟩
  have HN : Keep ((w.alloc (.cells (opA x) 188)).rangeAt w.heap.size 4 (bytesA 32 (hof x.node)).toList) := ⟨fun j v hv => by
    rw [hl_bytesA, ← idL_node x.node x.op] at hv
    rw [List.getElem?_take] at hv
    split at hv
    · exact HR.out j v hv
    · cases hv⟩
  have c0 : (w.alloc (.cells (opA x) 188)).cell? ⟨w.heap.size, 0, none⟩ = some (.int .i64 x.kind) := by rw [HB.out.cell, opA_0]
  have c1 : (w.alloc (.cells (opA x) 188)).cell? ⟨w.heap.size, 1, none⟩ = some (.string x.key) := by rw [HB.out.cell, opA_1]
  have c36 : (w.alloc (.cells (opA x) 188)).cell? ⟨w.heap.size, 36, none⟩ = some (.int .i64 x.op) := by rw [HB.out.cell, opA_36]
  obtain ⟨R, hR⟩ : ∃ R, R = mayAt l x := ⟨_, rfl⟩
  rw [← hR]
  unfold mayAt at hR
  have HM := Keep.mk hR
  clear hR
  have h1 := run_eql31L x.node z32 x.op 0
  have h2 := run_neqHL x.node z32
  have hNs : Keep ((Tryz.prog.info? 50).map (·.size) = some (bytesA 32 (hof x.node)).toList.length) := ⟨by rw [Array.length_toList]; exact Tryz.size50B _⟩
  obtain ⟨E, hE⟩ : ∃ E, E = nd x.node z32 := ⟨_, rfl⟩
  rw [← hE] at h1 h2 HM
  obtain ⟨cN, hN⟩ : ∃ c, Keep (c = (bytesA 32 (hof x.node)).toList) := ⟨_, ⟨rfl⟩⟩
  rw [← hN.out] at h2 HN hNs
  obtain ⟨cI, hI⟩ : ∃ c, Keep (c = idL x.node x.op) := ⟨_, ⟨rfl⟩⟩
  have hIs : Keep ((Tryz.prog.info? 186).map (·.size) = some cI.length) := ⟨by rw [hI.out]; exact Tryz.size186L _ _⟩
  rw [← hI.out] at h1 HR
  obtain ⟨aZ, hZ⟩ : ∃ c, Keep (c = idA z32 0) := ⟨_, ⟨rfl⟩⟩
  have hbZ : Keep (Tryz.prog.built 186 [] = some aZ) := ⟨by rw [hZ.out]; exact Tryz.built186⟩
  rw [← hZ.out] at h1
  obtain ⟨aY, hY⟩ : ∃ c, Keep (c = bytesA 32 (hof z32)) := ⟨_, ⟨rfl⟩⟩
  have hbY : Keep (Tryz.prog.built 50 [] = some aY) := ⟨by rw [hY.out]; exact Tryz.built50⟩
  rw [← hY.out] at h2
  have HX := Keep.mk hx
  have Hlb := Keep.mk hb
  have ho1 := hx.o1
  have ho2 := hx.o2
  obtain ⟨w1, hw1⟩ : ∃ w1, Keep (w.alloc (.cells (opA x) 188) = w1) := ⟨_, ⟨rfl⟩⟩
  rw [hw1.out] at HB HW HR HN c0 c1 c36
  clear hx hl hE hb
  have LD31 := Keep.mk HR.out
  go_enter Tryz.func155, Tryz.ntmps155
  by_cases hA : (E && x.op == 0) = true
  · have hA2 : E = true ∧ x.op = 0 := by simpa using hA
    rw [if_pos hA] at HM
    rw [hA] at h1
    go_wp2_with (first | (refine wpList_boxA rfl 188 (.tmp 0) rfl (opA x) rfl ?_; rw [hw1.out]) | (refine wpList_load_mid rfl 186 (.tmp 7) rfl w.heap.size 4 rfl cI _ HR.out Tryz.underlying186 rfl hIs.out ?_; refine wpList_bld rfl 186 _ rfl aZ (by simpa using hbZ.out) ?_))
    go_ret
    exact ⟨by rw [HM.out]; rfl, HW.out⟩
  · rw [if_neg hA] at HM
    rw [show (E && x.op == 0) = false by simpa using hA] at h1
    clear hA
    cases E with
    | false =>
      rw [if_pos rfl] at HM
      by_cases g1 : 1 ≤ x.op
      · by_cases g2 : x.op ≤ 1024
        · go_wp2_with (first | (refine wpList_boxA rfl 188 (.tmp 0) rfl (opA x) rfl ?_; rw [hw1.out]) | (refine wpList_load_mid rfl 186 (.tmp 7) rfl w.heap.size 4 rfl cI _ HR.out Tryz.underlying186 rfl hIs.out ?_; refine wpList_bld rfl 186 _ rfl aZ (by simpa using hbZ.out) ?_) | (refine wpList_load_mid rfl 50 (.tmp 18) rfl w.heap.size 4 rfl cN _ HN.out Tryz.underlying50 rfl hNs.out ?_; refine wpList_bld rfl 50 _ rfl aY (by simpa using hbY.out) ?_))
          go_ret
          exact ⟨by rw [HM.out, decide_eq_true g1, decide_eq_true g2]; rfl, HW.out⟩
        · go_wp2_with (first | (refine wpList_boxA rfl 188 (.tmp 0) rfl (opA x) rfl ?_; rw [hw1.out]) | (refine wpList_load_mid rfl 186 (.tmp 7) rfl w.heap.size 4 rfl cI _ HR.out Tryz.underlying186 rfl hIs.out ?_; refine wpList_bld rfl 186 _ rfl aZ (by simpa using hbZ.out) ?_) | (refine wpList_load_mid rfl 50 (.tmp 18) rfl w.heap.size 4 rfl cN _ HN.out Tryz.underlying50 rfl hNs.out ?_; refine wpList_bld rfl 50 _ rfl aY (by simpa using hbY.out) ?_))
          go_ret
          exact ⟨by rw [HM.out, decide_eq_true g1, decide_eq_false (show ¬ x.op ≤ 1024 by omega)]; rfl, HW.out⟩
      · go_wp2_with (first | (refine wpList_boxA rfl 188 (.tmp 0) rfl (opA x) rfl ?_; rw [hw1.out]) | (refine wpList_load_mid rfl 186 (.tmp 7) rfl w.heap.size 4 rfl cI _ HR.out Tryz.underlying186 rfl hIs.out ?_; refine wpList_bld rfl 186 _ rfl aZ (by simpa using hbZ.out) ?_) | (refine wpList_load_mid rfl 50 (.tmp 18) rfl w.heap.size 4 rfl cN _ HN.out Tryz.underlying50 rfl hNs.out ?_; refine wpList_bld rfl 50 _ rfl aY (by simpa using hbY.out) ?_))
        go_ret
        exact ⟨by rw [HM.out, decide_eq_false (show ¬ 1 ≤ x.op by omega)]; rfl, HW.out⟩
    | true =>
      rw [if_neg (by simp)] at HM
      by_cases g1 : x.op < 1
      · rw [if_pos (.inl g1)] at HM
        go_wp2_with (first | (refine wpList_boxA rfl 188 (.tmp 0) rfl (opA x) rfl ?_; rw [hw1.out]) | (refine wpList_load_mid rfl 186 (.tmp 7) rfl w.heap.size 4 rfl cI _ HR.out Tryz.underlying186 rfl hIs.out ?_; refine wpList_bld rfl 186 _ rfl aZ (by simpa using hbZ.out) ?_) | (refine wpList_load_mid rfl 50 (.tmp 18) rfl w.heap.size 4 rfl cN _ HN.out Tryz.underlying50 rfl hNs.out ?_; refine wpList_bld rfl 50 _ rfl aY (by simpa using hbY.out) ?_))
        go_ret
        exact ⟨by rw [HM.out]; rfl, HW.out⟩
      · by_cases g2 : (l.length : Int) < x.op
        · rw [if_pos (.inr g2)] at HM
          go_wp2_with (first | (refine wpList_boxA rfl 188 (.tmp 0) rfl (opA x) rfl ?_; rw [hw1.out]) | (refine wpList_load_mid rfl 186 (.tmp 7) rfl w.heap.size 4 rfl cI _ HR.out Tryz.underlying186 rfl hIs.out ?_; refine wpList_bld rfl 186 _ rfl aZ (by simpa using hbZ.out) ?_) | (refine wpList_load_mid rfl 50 (.tmp 18) rfl w.heap.size 4 rfl cN _ HN.out Tryz.underlying50 rfl hNs.out ?_; refine wpList_bld rfl 50 _ rfl aY (by simpa using hbY.out) ?_))
          go_ret
          exact ⟨by rw [HM.out]; rfl, HW.out⟩
        · rw [if_neg (by simp [g1, g2])] at HM
          obtain ⟨t, ht⟩ : ∃ t : Nat, x.op = (t : Int) + 1 := ⟨(x.op - 1).toNat, by omega⟩
          have htl : t < l.length := by omega
          obtain ⟨b, off, rfl, hrt⟩ := (HL.out.below HW.out).at htl
          rw [ht, show ((t : Int) + 1 - 1).toNat = t by omega] at HM
          have hi : (t : Int) + 1 - 1 = (t : Int) := by omega
          obtain ⟨it, hit⟩ : ∃ it, it = l.getD t zeroOp := ⟨_, rfl⟩
          rw [← hit] at hrt HM
          have HT := Keep.mk hrt
          have HS : Keep (Blk (w1.alloc (.cells (opA zeroOp) 188)) w1.heap.size 188 (opA zeroOp)) := ⟨Blk.new w1 188 _⟩
          have hw2 : w.heap.size < w1.heap.size := HB.out.lt
          have hg2 : (l.length : Int) ≤ 4398046511104 := by have := Hlb.out; omega
          have htn : ((t : Int) + 1 - 1).toNat = t := by omega
          rw [ht] at c36 g1 g2 ho1 ho2
          clear hit hrt
          go_wp2_with (first | (refine wpList_boxA rfl 188 (.tmp 0) rfl (opA x) rfl ?_; rw [hw1.out]) | (refine wpList_load_mid rfl 186 (.tmp 7) rfl w.heap.size 4 rfl cI _ HR.out Tryz.underlying186 rfl hIs.out ?_; refine wpList_bld rfl 186 _ rfl aZ (by simpa using hbZ.out) ?_) | (refine wpList_load_mid rfl 50 (.tmp 18) rfl w.heap.size 4 rfl cN _ HN.out Tryz.underlying50 rfl hNs.out ?_; refine wpList_bld rfl 50 _ rfl aY (by simpa using hbY.out) ?_) | (refine wpList_load_mid rfl 188 (.tmp 39) rfl b (off + t * 37) rfl (opL it) _ HT.out Tryz.underlying188 rfl (Tryz.size188L it) ?_; refine wpList_new rfl 188 rfl _ Tryz.new188 ?_; refine wpList_store_row rfl 188 (.tmp 6) (.tmp 40) rfl w1.heap.size (opA it) rfl rfl 188 (opA zeroOp) HS.out (Tryz.size188B it) (opA_sizes _ _) (opA_one it) ?_; refine Hid.out ?_))
          refine hid_in ?_
          have HI := Keep.mk (HS.out.setRow (opA it))
          have HX2 := Keep.mk ((HB.out.alloc (.cells (opA zeroOp) 188)).setRow_ne (b' := w1.heap.size) (by omega) (opA it))
          have HW2 := Keep.mk (below_setRow (HW.out.alloc HW.out.size (.cells (opA zeroOp) 188)) HW.out.size (opA it) (b := w1.heap.size))
          generalize (w1.alloc (.cells (opA zeroOp) 188)).setRow w1.heap.size (opA it) = w2 at *
          have d0 : w2.cell? ⟨w1.heap.size, 0, none⟩ = some (.int .i64 it.kind) := by rw [HI.out.cell, opA_0]
          have d1 : w2.cell? ⟨w1.heap.size, 1, none⟩ = some (.string it.key) := by rw [HI.out.cell, opA_1]
          have e1 : w2.cell? ⟨w.heap.size, 1, none⟩ = some (.string x.key) := by rw [HX2.out.cell, opA_1]
          clear h1 h2 c0 c1 c36
          by_cases k8 : it.kind = 8
          · go_wp2
            go_ret
            exact ⟨by rw [HM.out, k8]; simp; exact (beq_toListBytes _ _).symm, HW2.out⟩
          · go_wp2
            go_ret
            exact ⟨by rw [HM.out, show (it.kind == 8) = false by simpa using k8]; rfl, HW2.out⟩
end Go.Proofs.YtdkhjeofjhcceaaGreatDoor.Nd
namespace Go.Proofs.YtdkhjeofjhcceaaGreatDoor.Nd
open Go.RowKit

theorem wp_val {P : Program} {Q : Exit → Act → World → Prop} {o : Oper} {a : Act} {w : World} {K : Act → World → Prop} (v : Value) (hrun : (execOp a.eval o).run P w = .ok (.value v) w) (h : K (a.put o.dst v) w) : o.wp P a w K Q := by
  unfold Oper.wp
  rw [hrun]
  exact h
theorem Tryz.sizeOf5 (w : World) : (sizeOf 5).run Tryz.prog w = .ok 1 w := by kernel_rfl
structure IntsAt (w : World) (v : Value) (m : Nat) (K : Nat → Int) : Prop where
  form : (∃ a c, v = .slice a 0 c ∧ m = 0) ∨ ∃ q o cap, v = .slice (some ⟨q, o, none⟩) m cap ∧ ∀ i, i < m → w.cell? ⟨q, o + i, none⟩ = some (.int .i64 (K i))
theorem IntsAt.sl {w : World} {v : Value} {m : Nat} {K : Nat → Int} (h : IntsAt w v m K) : ∃ a c, v = .slice a m c := by
  rcases h.form with ⟨a, c, rfl, rfl⟩ | ⟨q, o, cap, rfl, _⟩
  · exact ⟨_, _, rfl⟩
  · exact ⟨_, _, rfl⟩
theorem IntsAt.at {w : World} {a : Option Addr} {m c : Nat} {K : Nat → Int} (h : IntsAt w (.slice a m c) m K) {t : Nat} (ht : t < m) : ∃ q o, a = some ⟨q, o, none⟩ ∧ w.cell? ⟨q, o + t, none⟩ = some (.int .i64 (K t)) := by
  rcases h.form with ⟨_, _, _, h2⟩ | ⟨q, o, cap, h1, h2⟩
  · omega
  · injection h1 with h1 h3 h4
    exact ⟨q, o, h1, h2 t ht⟩

end Go.Proofs.YtdkhjeofjhcceaaGreatDoor.Nd
namespace Go.Proofs.YtdkhjeofjhcceaaGreatDoor.Nd
open Go.RowKit

theorem wpList_wanted {P : Program} {ops : Array Oper} {rest : List Oper} {o : Oper} {a : Act} {w : World} {Q : Exit → Act → World → Prop} (hw : Region.wanted o (yielded ops a.tmps) = true)
    (h : ∀ K : Act → World → Prop, (∀ a w, wpList P ops Q rest a w → K a w) → o.wp P a w K Q) : wpList P ops Q (o :: rest) a w :=
  wpList_step fun K hK => by rw [if_pos hw]; exact h K hK

theorem wp_bldG {P : Program} {o : Oper} {a : Act} {w : World} {K : Act → World → Prop} {Q : Exit → Act → World → Prop} (t : TypeId) (parts : Array (Nat × Operand)) (ho : o.op = .build t parts)
    (cells : Array Value) (hf : P.built t (parts.map fun (i, x) => (i, a.eval x)).toList = some cells) (h : K (a.put o.dst (.agg cells)) w) : o.wp P a w K Q :=
  wp_build t parts ho (by rw [hf]; rfl) (by rw [hf]; exact h)

structure WL (P : Program) (ops : Array Oper) (Q : Exit → Act → World → Prop) (l : List Oper) (a : Act) (w : World) : Prop where
  out : wpList P ops Q l a w
theorem WL.skip {P : Program} {ops : Array Oper} {rest : List Oper} {o : Oper} {a : Act} {w : World} {Q : Exit → Act → World → Prop} (hw : Region.wanted o (yielded ops a.tmps) = false)
    (h : WL P ops Q rest (a.put o.dst undef) w) : WL P ops Q (o :: rest) a w :=
  ⟨wpList_step fun K hK => by rw [if_neg (by rw [hw]; simp)]; exact hK _ _ h.out⟩
theorem WL.val {P : Program} {ops : Array Oper} {rest : List Oper} {o : Oper} {a : Act} {w : World} {Q : Exit → Act → World → Prop} (hw : Region.wanted o (yielded ops a.tmps) = true) (v : Value)
    (hrun : (execOp a.eval o).run P w = .ok (.value v) w) (h : WL P ops Q rest (a.put o.dst v) w) : WL P ops Q (o :: rest) a w :=
  ⟨wpList_wanted hw fun _ hK => wp_val v hrun (hK _ _ h.out)⟩
theorem WL.nil {P : Program} {ops : Array Oper} {a : Act} {w : World} {Q : Exit → Act → World → Prop} (h : Q .normal a w) : WL P ops Q [] a w := ⟨h⟩
theorem WL.mid {P : Program} {ops : Array Oper} {rest : List Oper} {op : Oper} {a : Act} {w : World} {Q : Exit → Act → World → Prop} (hw : Region.wanted op (yielded ops a.tmps) = true) (ty : TypeId) (x : Operand) (ho : op.op = .load ty x)
    (b o : Nat) (hx : a.eval x = .pointer (some ⟨b, o, none⟩)) (cs : List Value) (d : TypeDesc) (hc : w.rangeAt b o cs)
    (hu : P.underlying ty = some d) (hd : d.isRow = true) (hi : (P.info? ty).map (·.size) = some cs.length)
    (h : WL P ops Q rest (a.put op.dst (.agg cs.toArray)) w) : WL P ops Q (op :: rest) a w :=
  ⟨wpList_wanted hw fun _ hK => wp_load_mid ty x ho b o hx cs d hc hu hd hi (hK _ _ h.out)⟩
theorem WL.call {P : Program} {ops : Array Oper} {rest : List Oper} {o : Oper} {a : Act} {w : World} {Q : Exit → Act → World → Prop} (hw : Region.wanted o (yielded ops a.tmps) = true)
    (h : ∀ K : Act → World → Prop, (∀ a w, WL P ops Q rest a w → K a w) → o.wp P a w K Q) : WL P ops Q (o :: rest) a w :=
  ⟨wpList_wanted hw fun K hK => h K fun a w h => hK a w h.out⟩


end Go.Proofs.YtdkhjeofjhcceaaGreatDoor.Nd
namespace Go.Proofs.YtdkhjeofjhcceaaGreatDoor.Nd
open Go.RowKit

section
variable {P : Program} {ops : Array Oper} {rest : List Oper} {o : Oper} {a : Act} {w : World} {Q : Exit → Act → World → Prop}
theorem WL.row (hw : Region.wanted o (yielded ops a.tmps) = true) (ty : TypeId) (x : Operand) (ho : o.op = .load ty x)
    (b : Nat) (hx : a.eval x = .pointer (some ⟨b, 0, none⟩)) (t : TypeId) (cs : Array Value) (d : TypeDesc) (hc : Blk w b t cs)
    (hu : P.underlying ty = some d) (hd : d.isRow = true) (hi : (P.info? ty).map (·.size) = some cs.size)
    (h : WL P ops Q rest (a.put o.dst (.agg cs)) w) : WL P ops Q (o :: rest) a w :=
  WL.mid hw ty x ho b 0 hx cs.toList d (blk_range hc) hu hd (by rw [Array.length_toList]; exact hi) (by rw [Array.toArray_toList]; exact h)
theorem WL.midA (hw : Region.wanted o (yielded ops a.tmps) = true) (ty : TypeId) (x : Operand) (ho : o.op = .load ty x)
    (b of : Nat) (hx : a.eval x = .pointer (some ⟨b, of, none⟩)) (cs : Array Value) (d : TypeDesc) (hc : w.rangeAt b of cs.toList)
    (hu : P.underlying ty = some d) (hd : d.isRow = true) (hi : (P.info? ty).map (·.size) = some cs.size)
    (h : WL P ops Q rest (a.put o.dst (.agg cs)) w) : WL P ops Q (o :: rest) a w :=
  WL.mid hw ty x ho b of hx cs.toList d hc hu hd (by rw [Array.length_toList]; exact hi) (by rw [Array.toArray_toList]; exact h)
theorem WL.new (hw : Region.wanted o (yielded ops a.tmps) = true) (t : TypeId) (ho : o.op = .alloc t) (cells : Array Value)
    (hf : ∀ w : World, (Instr.alloc t true (.tuple #[])).run P w = .ok (.pointer (some ⟨w.heap.size, 0, none⟩)) (w.alloc (.cells cells t)))
    (h : WL P ops Q rest (a.put o.dst (.pointer (some ⟨w.heap.size, 0, none⟩))) (w.alloc (.cells cells t))) : WL P ops Q (o :: rest) a w :=
  ⟨wpList_wanted hw fun K hK => by
    unfold Oper.wp execOp
    simp only [ho, Sem.run_bind, hf w, Result.andThen_ok]
    exact hK _ _ h.out⟩
theorem WL.box (hw : Region.wanted o (yielded ops a.tmps) = true) (t : TypeId) (x : Operand) (ho : o.op = .box t x) (cs : Array Value) (hx : a.eval x = .agg cs)
    (h : WL P ops Q rest (a.put o.dst (.pointer (some ⟨w.heap.size, 0, none⟩))) (w.alloc (.cells cs t))) : WL P ops Q (o :: rest) a w :=
  ⟨wpList_wanted hw fun K hK => by
    unfold Oper.wp execOp
    simp only [ho, hx, Sem.run_bind, run_box_agg, Result.andThen_ok]
    exact hK _ _ h.out⟩
theorem WL.storeR (hw : Region.wanted o (yielded ops a.tmps) = true) (ty : TypeId) (x y : Operand) (ho : o.op = .store ty x y)
    (g : Nat) (cells : Array Value) (hx : a.eval x = .pointer (some ⟨g, 0, none⟩)) (hy : a.eval y = .agg cells)
    (t : TypeId) (old : Array Value) (hg : Blk w g t old) (hi : (P.info? ty).map (·.size) = some cells.size) (hold : old.size = cells.size) (h1 : cells.all (·.oneCell') = true)
    (h : WL P ops Q rest (a.put o.dst undef) (w.setRow g cells)) : WL P ops Q (o :: rest) a w :=
  ⟨wpList_wanted hw fun _ hK => wp_store_row ty x y ho g cells hx hy t old hg hi hold h1 (hK _ _ h.out)⟩
theorem WL.cell (hw : Region.wanted o (yielded ops a.tmps) = true) (w' : World) (hrun : (execOp a.eval o).run P w = .ok .skip w')
    (h : WL P ops Q rest (a.put o.dst undef) w') : WL P ops Q (o :: rest) a w :=
  ⟨wpList_wanted hw fun _ hK => by unfold Oper.wp; rw [hrun, Oper.upon_skip]; exact hK _ _ h.out⟩
theorem WL.bld (hw : Region.wanted o (yielded ops a.tmps) = true) (t : TypeId) (parts : Array (Nat × Operand)) (ho : o.op = .build t parts)
    (vs : List (Nat × Value)) (hv : (parts.map fun (i, x) => (i, a.eval x)).toList = vs) (cells : Array Value) (hf : P.built t vs = some cells)
    (h : WL P ops Q rest (a.put o.dst (.agg cells)) w) : WL P ops Q (o :: rest) a w :=
  ⟨wpList_wanted hw fun _ hK => wp_bldG t parts ho cells (by rw [hv]; exact hf) (hK _ _ h.out)⟩
theorem WL.bs (hw : Region.wanted o (yielded ops a.tmps) = true) (t : TypeId) (n : Nat) (parts : Array (Nat × Operand)) (ho : o.op = .buildSlice t n parts)
    (vs : Array (Nat × Value)) (hv : (parts.map fun (i, x) => (i, a.eval x)) = vs) (v : Value) (w' : World) (hrun : (Instr.buildSlice t n vs).run P w = .ok v w')
    (h : WL P ops Q rest (a.put o.dst v) w') : WL P ops Q (o :: rest) a w :=
  ⟨wpList_wanted hw fun K hK => by
    unfold Oper.wp execOp
    simp only [ho, hv, Sem.run_bind, hrun, Result.andThen_ok]
    exact hK _ _ h.out⟩
theorem WL.part (hw : Region.wanted o (yielded ops a.tmps) = true) (ty : TypeId) (x y : Operand) (ho : o.op = .store ty x y)
    (g off : Nat) (cells : Array Value) (hx : a.eval x = .pointer (some ⟨g, off, none⟩)) (hy : a.eval y = .agg cells)
    (t : TypeId) (cur : Array Value) (hg : Blk w g t cur) (hi : (P.info? ty).map (·.size) = some cells.size) (hfit : off + cells.size ≤ cur.size) (h1 : cells.all (·.oneCell') = true)
    (new : Array Value) (hn : (cur.toList.take off ++ cells.toList ++ cur.toList.drop (off + cells.size)).toArray = new)
    (h : WL P ops Q rest (a.put o.dst undef) (w.setRow g new)) : WL P ops Q (o :: rest) a w := by
  subst hn
  refine ⟨wpList_wanted hw fun K hK => ?_⟩
  have hst := run_storeCells_at P g off t cells.toList 0 cur w hg (by simpa using hfit) (fun v hv => (Array.all_eq_true_iff_forall_mem.1 h1) v (by simpa using hv))
  have hrun : (storeVar ty ⟨g, off, none⟩ (.agg cells)).run P w = .ok () (w.setRow g (cur.toList.take off ++ cells.toList ++ cur.toList.drop (off + cells.size)).toArray) := by
    cases hq : P.info? ty with
    | none => simp [hq] at hi
    | some i =>
      have hs : cells.size = i.size := by simp [hq] at hi; omega
      simp only [Nat.add_zero, Array.length_toList] at hst
      simp [storeVar, sizeOf, typeInfo, hq, Value.cells, hs, hst]
  unfold Oper.wp execOp
  simp only [ho, hx, hy, Instr.storeAt, Instr.sureAddr, Sem.run_bind, Sem.run_pure, Result.andThen_ok, hrun]
  exact hK _ _ h.out
theorem run_callF (a : Act) (o : Oper) (f : FuncId) (args : Array Operand) (ts : Array TypeId) (ho : o.op = .call { callee := .value (.func f), args := args, argTypes := ts })
    (hf : ∀ (w : World) (vs : Array Value), (callFunc f vs).run P w = .ok (.enter f vs) w) (w : World) :
    (execOp a.eval o).run P w = .ok (.enter f (args.map a.eval)) w := by
  unfold execOp
  simp only [ho]
  simp [resolve, Act.eval, go_sem]
  exact hf w _
theorem run_callV (a : Act) (o : Oper) (f : FuncId) (x : Operand) (args : Array Operand) (ts : Array TypeId) (ho : o.op = .call { callee := .value x, args := args, argTypes := ts }) (hx : a.eval x = .func (.func f) #[] #[])
    (hf : ∀ (w : World) (vs : Array Value), (callFunc f vs).run P w = .ok (.enter f vs) w) (w : World) :
    (execOp a.eval o).run P w = .ok (.enter f (args.map a.eval)) w := by
  unfold execOp
  simp only [ho, resolve, hx]
  generalize Array.map a.eval args = vs
  simp [go_sem]
  exact hf w _
theorem WL.callF (hw : Region.wanted o (yielded ops a.tmps) = true) (f : FuncId) (args : Array Operand) (ts : Array TypeId) (ho : o.op = .call { callee := .value (.func f), args := args, argTypes := ts })
    (hf : ∀ (w : World) (vs : Array Value), (callFunc f vs).run P w = .ok (.enter f vs) w) (vs : Array Value) (hvs : args.map a.eval = vs)
    (hc : Calls P f vs w fun e w' => ∃ v, e = .returned v ∧ WL P ops Q rest (a.put o.dst v) w') : WL P ops Q (o :: rest) a w :=
  ⟨wpList_wanted hw fun K hK => by
    unfold Oper.wp
    rw [run_callF a o f args ts ho hf w, Oper.upon_enter, hvs]
    refine hc.mono ?_
    rintro e w' ⟨v, rfl, hr⟩
    exact hK _ _ hr.out⟩
theorem WL.callV (hw : Region.wanted o (yielded ops a.tmps) = true) (f : FuncId) (x : Operand) (args : Array Operand) (ts : Array TypeId) (ho : o.op = .call { callee := .value x, args := args, argTypes := ts }) (hx : a.eval x = .func (.func f) #[] #[])
    (hf : ∀ (w : World) (vs : Array Value), (callFunc f vs).run P w = .ok (.enter f vs) w) (vs : Array Value) (hvs : args.map a.eval = vs)
    (hc : Calls P f vs w fun e w' => ∃ v, e = .returned v ∧ WL P ops Q rest (a.put o.dst v) w') : WL P ops Q (o :: rest) a w :=
  ⟨wpList_wanted hw fun K hK => by
    unfold Oper.wp
    rw [run_callV a o f x args ts ho hx hf w, Oper.upon_enter, hvs]
    refine hc.mono ?_
    rintro e w' ⟨v, rfl, hr⟩
    exact hK _ _ hr.out⟩
end
theorem Blk.c {w : World} {b : Nat} {T : TypeId} {cs : Array Value} (h : Blk w b T cs) (j : Nat) {v : Value} (hv : cs[j]? = some v) : w.cell? ⟨b, j, none⟩ = some v := by rw [h.cell]; exact hv
theorem Tryz.in42 (w : World) (vs : Array Value) : (callFunc 42 vs).run Tryz.prog w = .ok (.enter 42 vs) w := by kernel_rfl
theorem Tryz.in88 (w : World) (vs : Array Value) : (callFunc 88 vs).run Tryz.prog w = .ok (.enter 88 vs) w := by kernel_rfl
theorem Tryz.in69 (w : World) (vs : Array Value) : (callFunc 69 vs).run Tryz.prog w = .ok (.enter 69 vs) w := by kernel_rfl
theorem Tryz.in78 (w : World) (vs : Array Value) : (callFunc 78 vs).run Tryz.prog w = .ok (.enter 78 vs) w := by kernel_rfl
theorem Tryz.in110 (w : World) (vs : Array Value) : (callFunc 110 vs).run Tryz.prog w = .ok (.enter 110 vs) w := by kernel_rfl
theorem Tryz.in45 (w : World) (vs : Array Value) : (callFunc 45 vs).run Tryz.prog w = .ok (.enter 45 vs) w := by kernel_rfl
theorem Tryz.in111 (w : World) (vs : Array Value) : (callFunc 111 vs).run Tryz.prog w = .ok (.enter 111 vs) w := by kernel_rfl
theorem Tryz.in155 (w : World) (vs : Array Value) : (callFunc 155 vs).run Tryz.prog w = .ok (.enter 155 vs) w := by kernel_rfl
theorem Tryz.in108 (w : World) (vs : Array Value) : (callFunc 108 vs).run Tryz.prog w = .ok (.enter 108 vs) w := by kernel_rfl
theorem Tryz.in140 (w : World) (vs : Array Value) : (callFunc 140 vs).run Tryz.prog w = .ok (.enter 140 vs) w := by kernel_rfl
theorem Tryz.in141 (w : World) (vs : Array Value) : (callFunc 141 vs).run Tryz.prog w = .ok (.enter 141 vs) w := by kernel_rfl
theorem Tryz.in144 (w : World) (vs : Array Value) : (callFunc 144 vs).run Tryz.prog w = .ok (.enter 144 vs) w := by kernel_rfl
theorem Tryz.in148 (w : World) (vs : Array Value) : (callFunc 148 vs).run Tryz.prog w = .ok (.enter 148 vs) w := by kernel_rfl
theorem Tryz.in149 (w : World) (vs : Array Value) : (callFunc 149 vs).run Tryz.prog w = .ok (.enter 149 vs) w := by kernel_rfl
theorem Tryz.in152 (w : World) (vs : Array Value) : (callFunc 152 vs).run Tryz.prog w = .ok (.enter 152 vs) w := by kernel_rfl
theorem Tryz.in77 (w : World) (vs : Array Value) : (callFunc 77 vs).run Tryz.prog w = .ok (.enter 77 vs) w := by kernel_rfl
end Go.Proofs.YtdkhjeofjhcceaaGreatDoor.Nd
namespace Go.Proofs.YtdkhjeofjhcceaaGreatDoor.Nd
open Go.RowKit
set_option linter.unusedSimpArgs false

theorem FieldsAt.form {w : World} {v : Value} {is : List Nat} (h : FieldsAt w v is) : ∃ a c, v = .slice a is.length c := by
  rcases h with ⟨rfl, rfl⟩ | ⟨g, rfl, _⟩
  · exact ⟨_, _, rfl⟩
  · exact ⟨_, _, rfl⟩
theorem FieldsAt.below {w w' : World} {v : Value} {is : List Nat} (h : FieldsAt w v is) (hb : Below w.heap.size w w') : FieldsAt w' v is :=
  h.grown (Grown.below (S := fun _ => False) hb) fun _ _ h => h
theorem flatF_drop (is : List Nat) : ∀ t, (flatF is).toList.drop (t * 3) = (is.drop t).flatMap fun i => (fldA i).toList := by
  induction is with
  | nil => intro t; simp [flatF]
  | cons i is ih =>
    intro t
    cases t with
    | zero => simp [flatF]
    | succ t =>
      have := ih t
      simp only [flatF, List.flatMap_cons, List.drop_succ_cons] at this ⊢
      rw [← this, show (t + 1) * 3 = 3 + t * 3 by omega, ← List.drop_drop, List.drop_left' (by rw [Array.length_toList, fldA_size])]
theorem flat_range {w : World} {g : Nat} {is : List Nat} (h : Blk w g 216 (flatF is)) {t : Nat} (ht : t < is.length) : w.rangeAt g (t * 3) (fldA (is.getD t 0)).toList := fun j v hv => by
  rw [h.cell]
  have h3 : j < 3 := by have := (List.getElem?_eq_some_iff.1 hv).1; rw [Array.length_toList, fldA_size] at this; exact this
  have e : (flatF is)[t * 3 + j]? = ((flatF is).toList.drop (t * 3))[j]? := by rw [List.getElem?_drop, Array.getElem?_toList]
  rw [e, flatF_drop, List.drop_eq_getElem_cons ht, List.flatMap_cons, List.getElem?_append_left (by rw [Array.length_toList, fldA_size]; exact h3)]
  rw [show is[t] = is.getD t 0 by simp [List.getD_eq_getElem?_getD, ht]]
  exact hv
theorem FieldsAt.at {w : World} {a : Option Addr} {n c : Nat} {is : List Nat} (h : FieldsAt w (.slice a n c) is) {t : Nat} (ht : t < is.length) : ∃ g, a = some ⟨g, 0, none⟩ ∧ w.rangeAt g (0 + t * 3) (fldA (is.getD t 0)).toList := by
  rcases h with ⟨_, rfl⟩ | ⟨g, e, h2⟩
  · simp at ht
  · injection e with e1 e2 e3
    exact ⟨g, e1, by rw [Nat.zero_add]; exact flat_range h2 ht⟩
end Go.Proofs.YtdkhjeofjhcceaaGreatDoor.Nd
namespace Go.Proofs.YtdkhjeofjhcceaaGreatDoor.Nd
open Go.RowKit
set_option linter.unusedSimpArgs false

theorem hasI_lt (k : Int) : ∀ i ∈ hasI k, i < 4 := by
  by_cases h : k ∈ ([1, 2, 3, 4, 5, 6, 7, 8, 9] : List Int)
  · simp only [List.mem_cons, List.not_mem_nil, or_false] at h
    rcases h with rfl | rfl | rfl | rfl | rfl | rfl | rfl | rfl | rfl <;> decide
  · rw [hasI_none k h]; simp
theorem hasI_len (k : Int) : (hasI k).length ≤ 3 := by
  by_cases h : k ∈ ([1, 2, 3, 4, 5, 6, 7, 8, 9] : List Int)
  · simp only [List.mem_cons, List.not_mem_nil, or_false] at h
    rcases h with rfl | rfl | rfl | rfl | rfl | rfl | rfl | rfl | rfl <;> decide
  · rw [hasI_none k h]; simp
end Go.Proofs.YtdkhjeofjhcceaaGreatDoor.Nd
namespace Go.Proofs.YtdkhjeofjhcceaaGreatDoor.Nd
open Go.RowKit
set_option linter.unusedSimpArgs false

theorem wp_callF {P : Program} {Q : Exit → Act → World → Prop} {o : Oper} {a : Act} {w : World} {K : Act → World → Prop} (f : FuncId) (args : Array Operand) (ts : Array TypeId) (ho : o.op = .call { callee := .value (.func f), args := args, argTypes := ts })
    (hf : ∀ (w : World) (vs : Array Value), (callFunc f vs).run P w = .ok (.enter f vs) w)
    (vs : Array Value) (hvs : args.map a.eval = vs)
    (R : Value → World → Prop) (hc : Calls P f vs w fun e w' => ∃ v, e = .returned v ∧ R v w')
    (h : ∀ v w', R v w' → K (a.put o.dst v) w') : o.wp P a w K Q := by
  unfold Oper.wp
  rw [run_callF a o f args ts ho hf w, Oper.upon_enter, hvs]
  refine hc.mono ?_
  rintro e w' ⟨v, rfl, hr⟩
  exact h v w' hr
theorem TabAt.look2 {w : World} {m : Nat} (h : TabAt w m) (k : Int) : ∃ v, FieldsAt w v (hasI k) ∧ ∀ wx, Below w.heap.size w wx →
    (Instr.lookup 183 (.map (some m)) (.int .i64 k) false).run Tryz.prog wx = .ok v wx ∧ (Instr.lookup 183 (.map (some m)) (.int .i64 k) true).run Tryz.prog wx = .ok (.tuple #[v, .bool (!(hasI k).isEmpty)]) wx := by
  obtain ⟨V, h1, h2⟩ := h.ex
  have h3 := fun wx (hb : Below w.heap.size w wx) => run_look wx m _ k (h1.grown (Grown.below (S := fun _ => False) hb) (fun h => h))
  simp only [find_tab] at h3
  by_cases hk : k ∈ ([1, 2, 3, 4, 5, 6, 7, 8, 9] : List Int)
  · refine ⟨V k, h2 k hk, fun wx hb => ⟨by rw [h3 wx hb, if_pos hk]; rfl, ?_⟩⟩
    have : (hasI k).isEmpty = false := by simpa using hasI_some k hk
    rw [h3 wx hb, if_pos hk, this]; rfl
  · refine ⟨.slice none 0 0, .inl ⟨rfl, hasI_none k hk⟩, fun wx hb => ⟨by rw [h3 wx hb, if_neg hk]; rfl, ?_⟩⟩
    rw [h3 wx hb, if_neg hk, hasI_none k hk]; rfl
theorem OpsAt.take {w : World} {a : Option Addr} {n c : Nat} {l : List OpV} (h : OpsAt w (.slice a n c) l) {t : Nat} (ht : t ≤ l.length) : t ≤ c ∧ OpsAt w (.slice a t c) (l.take t) := by
  rcases h with ⟨_, _, e, rfl⟩ | ⟨b, off, cap, e, h2, h3⟩
  · obtain rfl : t = 0 := by simpa using ht
    exact ⟨Nat.zero_le _, .inl ⟨_, _, rfl, rfl⟩⟩
  · injection e with e1 e2 e3
    subst e1 e3
    refine ⟨by omega, .inr ⟨b, off, c, ?_, ?_, fun i x hx => h3 i x ?_⟩⟩
    · rw [List.length_take, Nat.min_eq_left ht]
    · rw [List.length_take]; omega
    · rw [List.getElem?_take] at hx; split at hx
      · exact hx
      · cases hx
end Go.Proofs.YtdkhjeofjhcceaaGreatDoor.Nd
namespace Go.Proofs.YtdkhjeofjhcceaaGreatDoor.Nd
open Go.RowKit
set_option linter.unusedSimpArgs false

theorem OutAt.below {w w' : World} {p : Nat} {v : Value} {l : List Int} (h : OutAt w p v l) (hb : Below w.heap.size w w') : OutAt w' p v l :=
  h.grown (Grown.below (S := fun _ => False) hb) fun _ _ h => h
theorem OutAt.off {w : World} {p : Nat} {v : Value} {l : List Int} (h : OutAt w p v l) {g : Nat} {T : TypeId} {cs : Array Value} (hg : Blk w g T cs) (h1 : T ≠ 96) (h2 : T ≠ 5) : ¬ OF p v g := by
  rintro (rfl | e)
  · exact h1 (blk_type hg h.blk)
  · exact h.own.ne hg h2 e
theorem OutAt.fields {w w' : World} {p : Nat} {v : Value} {l : List Int} (h : OutAt w p v l) {u : Value} {is : List Nat} (hf : FieldsAt w u is) (hg : Grown w w' (OF p v)) : FieldsAt w' u is :=
  hf.grown hg fun _ hb => h.off hb (by decide) (by decide)

end Go.Proofs.YtdkhjeofjhcceaaGreatDoor.Nd
namespace Go.Proofs.YtdkhjeofjhcceaaGreatDoor.Nd
open Go.RowKit
set_option linter.unusedSimpArgs false

theorem Moved.mono {a b : World} {v v' : Value} (h : Moved b v v') (hs : a.heap.size ≤ b.heap.size) : Moved a v v' := (Moved.refl a v).trans hs h
end Go.Proofs.YtdkhjeofjhcceaaGreatDoor.Nd
namespace Go.Proofs.YtdkhjeofjhcceaaGreatDoor.Nd
open Go.RowKit
set_option linter.unusedSimpArgs false

def flatO (l : List OpV) : List Value := l.flatMap opL
theorem flatO_drop (l : List OpV) : ∀ t, (flatO l).drop (t * 37) = flatO (l.drop t) := by
  induction l with
  | nil => intro t; simp [flatO]
  | cons x l ih =>
    intro t
    cases t with
    | zero => simp
    | succ t =>
      have := ih t
      simp only [flatO, List.flatMap_cons, List.drop_succ_cons] at this ⊢
      rw [← this, show (t + 1) * 37 = 37 + t * 37 by omega, ← List.drop_drop, List.drop_left' (opL_len x)]
theorem flatO_get (l : List OpV) (t : Nat) (x : OpV) (ht : l[t]? = some x) (j : Nat) (v : Value) (hv : (opL x)[j]? = some v) : (flatO l)[t * 37 + j]? = some v := by
  rw [← List.getElem?_drop, flatO_drop]
  obtain ⟨h1, h2⟩ := List.getElem?_eq_some_iff.1 ht
  rw [List.drop_eq_getElem_cons h1, h2]
  simp only [flatO, List.flatMap_cons]
  rw [List.getElem?_append_left (List.getElem?_eq_some_iff.1 hv).1]
  exact hv
theorem ops_block {w : World} {g : Nat} {T : TypeId} {l : List OpV} {cs : Array Value} {cap : Nat} (h : Blk w g T cs) (hc : cs.toList.take (l.length * 37) = flatO l) (hcap : l.length ≤ cap) : OpsAt w (.slice (some ⟨g, 0, none⟩) l.length cap) l := by
  refine .inr ⟨g, 0, cap, rfl, hcap, fun i x hx j v hv => ?_⟩
  rw [Nat.zero_add, h.cell]
  have := flatO_get l i x hx j v hv
  rw [← hc, List.getElem?_take] at this
  split at this
  · simpa using this
  · cases this
theorem z32_len : z32.length = 32 := by decide
theorem z32_byts : Byts z32 := by unfold z32; intro c hc; rw [List.eq_of_mem_replicate hc]; decide
end Go.Proofs.YtdkhjeofjhcceaaGreatDoor.Nd
