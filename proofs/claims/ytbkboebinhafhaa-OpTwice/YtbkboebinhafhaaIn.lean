import Derived.Test.YtbkboebinhafhaaTail
namespace Go.Proofs.Ytbkboebinhafhaa
open Go.RowKit

def bp : Option Nat → Value
  | none => .pointer none
  | some q => ptr q
/-- A reader at p, of the text s: it stands at a. -/
structure InAt (w : World) (p : Nat) (s : ByteArray) (a : Nat) (bad : Option Nat) : Prop where
  blk : Blk w p 90 #[.string s, .int .i64 (a : Int), bp bad]
  le : a ≤ s.size
/-- An error at q. -/
def BadAt (w : World) (q : Nat) (why : Int) (a : Nat) : Prop := Blk w q 104 #[.int .i64 why, .int .i64 (a : Int)]
def err (q : Nat) : Value := .iface 88 (ptr q)

set_option maxRecDepth 8000 in
set_option maxHeartbeats 400000 in
theorem ileft_any (p : Nat) (s : ByteArray) (a : Nat) (bad : Option Nat) (w : World) (h : InAt w p s a bad) (hb : s.size ≤ 140737488355328) :
    Calls Try.prog 30 #[ptr p] w fun e w' => e = .returned (.int .i64 ((s.size : Int) - a)) ∧ ∃ q, w' = w.drewN q := by
  have c0 : w.cell? ⟨p, 0, none⟩ = some (.string s) := by rw [h.blk.cell]; rfl
  have c1 : w.cell? ⟨p, 1, none⟩ = some (.int .i64 (a : Int)) := by rw [h.blk.cell]; rfl
  have hle := h.le
  have h1 : (a : Int) ≤ (s.size : Int) := by omega
  have h2 : (s.size : Int) ≤ 140737488355328 := by omega
  clear h hb hle
  go_enter Try.func30, Try.ntmps30
  go_wp2
  go_quiet (fail)
  go_wp2
  go_ret
  exact ⟨rfl, nq, rfl⟩

set_option maxRecDepth 8000 in
set_option maxHeartbeats 400000 in
theorem iat_any (p : Nat) (s : ByteArray) (a : Nat) (bad : Option Nat) (w : World) (h : InAt w p s a bad) :
    Calls Try.prog 29 #[ptr p] w fun e w' => e = .returned (.int .i64 (a : Int)) ∧ w' = w := by
  have c1 : w.cell? ⟨p, 1, none⟩ = some (.int .i64 (a : Int)) := by rw [h.blk.cell]; rfl
  clear h
  go_enter Try.func29, Try.ntmps29
  go_wp2
  go_ret
  exact ⟨rfl, rfl⟩

set_option maxRecDepth 8000 in
set_option maxHeartbeats 400000 in
theorem ifail_any (p : Nat) (s : ByteArray) (a : Nat) (why : Int) (w : World) (h : InAt w p s a none) :
    Calls Try.prog 58 #[ptr p, .int .i64 why] w fun e w' => e = .returned (err w.heap.size) ∧ InAt w' p s a (some w.heap.size) ∧ BadAt w' w.heap.size why a ∧ Grown w w' fun k => k = p := by
  have HI := Keep.mk h
  have c1 : w.cell? ⟨p, 1, none⟩ = some (.int .i64 (a : Int)) := by rw [h.blk.cell]; rfl
  have hlt := h.blk.lt
  have hne : p ≠ w.heap.size := by omega
  have hb1 := (h.blk.alloc (.cells #[.int .i64 why, .int .i64 (a : Int)] 104))
  have HB := Keep.mk hb1
  have HN := Keep.mk (Blk.new w 104 #[.int .i64 why, .int .i64 (a : Int)])
  have HG := Keep.mk (Grown.alloc w (.cells #[.int .i64 why, .int .i64 (a : Int)] 104) fun k => k = p)
  have HL := Keep.mk h.le
  clear h hb1 
  go_enter Try.func58, Try.ntmps58
  go_wp2_with (first | (refine wpList_boxA rfl 104 (.tmp 11) rfl _ rfl ?_; refine Hid.out ?_))
  refine hid_in ?_
  generalize w.alloc (.cells #[.int .i64 why, .int .i64 (a : Int)] 104) = w1 at *
  have c2 : w1.cell? ⟨p, 2, none⟩ = some (.pointer none) := by rw [HB.out.cell]; rfl
  have f2 := HB.out.frozen 2
  clear c1
  go_wp2
  go_ret
  exact ⟨rfl, ⟨HB.out.set 2 _, HL.out⟩, HN.out.set_ne (fun e => hne e.symm) _, HG.out.trans (Grown.setCell w1 p 2 _ fun _ => rfl)⟩
end Go.Proofs.Ytbkboebinhafhaa
