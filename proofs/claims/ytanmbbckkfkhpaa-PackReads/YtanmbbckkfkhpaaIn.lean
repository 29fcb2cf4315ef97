import Derived.Test.YtanmbbckkfkhpaaTail
namespace Go.Proofs.Ytanmbbckkfkhpaa
open Go.RowKit

def bp : Option Nat → Value
  | none => .pointer none
  | some q => ptr q
/-- A reader at p, of the text s: it stands at a. -/
structure InAt (w : World) (p : Nat) (s : ByteArray) (a : Nat) (bad : Option Nat) : Prop where
  blk : Blk w p 89 #[.string s, .int .i64 (a : Int), bp bad]
  le : a ≤ s.size
/-- An error at q. -/
def BadAt (w : World) (q : Nat) (why : Int) (a : Nat) : Prop := Blk w q 25 #[.int .i64 why, .int .i64 (a : Int)]
def err (q : Nat) : Value := .iface 22 (ptr q)

set_option maxHeartbeats 400000 in
theorem ileft_any (p : Nat) (s : ByteArray) (a : Nat) (bad : Option Nat) (w : World) (h : InAt w p s a bad) (hb : s.size ≤ 140737488355328) :
    Calls Try.prog 24 #[ptr p] w fun e w' => e = .returned (.int .i64 ((s.size : Int) - a)) ∧ ∃ q, w' = w.drewN q := by
  have c0 : w.cell? ⟨p, 0, none⟩ = some (.string s) := by rw [h.blk.cell]; rfl
  have c1 : w.cell? ⟨p, 1, none⟩ = some (.int .i64 (a : Int)) := by rw [h.blk.cell]; rfl
  have hle := h.le
  have h1 : (a : Int) ≤ (s.size : Int) := by omega
  have h2 : (s.size : Int) ≤ 140737488355328 := by omega
  clear h hb hle
  go_enter Try.func24, Try.ntmps24
  go_wp2
  go_quiet (fail)
  go_wp2
  go_ret
  exact ⟨rfl, nq, rfl⟩

set_option maxHeartbeats 400000 in
theorem iat_any (p : Nat) (s : ByteArray) (a : Nat) (bad : Option Nat) (w : World) (h : InAt w p s a bad) :
    Calls Try.prog 23 #[ptr p] w fun e w' => e = .returned (.int .i64 (a : Int)) ∧ w' = w := by
  have c1 : w.cell? ⟨p, 1, none⟩ = some (.int .i64 (a : Int)) := by rw [h.blk.cell]; rfl
  clear h
  go_enter Try.func23, Try.ntmps23
  go_wp2
  go_ret
  exact ⟨rfl, rfl⟩

set_option maxHeartbeats 400000 in
theorem ifail_any (p : Nat) (s : ByteArray) (a : Nat) (why : Int) (w : World) (h : InAt w p s a none) :
    Calls Try.prog 60 #[ptr p, .int .i64 why] w fun e w' => e = .returned (err w.heap.size) ∧ InAt w' p s a (some w.heap.size) ∧ BadAt w' w.heap.size why a ∧ Grown w w' fun k => k = p := by
  have HI := Keep.mk h
  have c1 : w.cell? ⟨p, 1, none⟩ = some (.int .i64 (a : Int)) := by rw [h.blk.cell]; rfl
  have hlt := h.blk.lt
  have hne : p ≠ w.heap.size := by omega
  have hb1 := (h.blk.alloc (.cells #[.int .i64 why, .int .i64 (a : Int)] 25))
  have HB := Keep.mk hb1
  have HN := Keep.mk (Blk.new w 25 #[.int .i64 why, .int .i64 (a : Int)])
  have HG := Keep.mk (Grown.alloc w (.cells #[.int .i64 why, .int .i64 (a : Int)] 25) fun k => k = p)
  have HL := Keep.mk h.le
  clear h hb1 
  go_enter Try.func60, Try.ntmps60
  go_wp2_with (first | (refine wpList_boxA rfl 25 (.tmp 11) rfl _ rfl ?_; refine Hid.out ?_))
  refine hid_in ?_
  generalize w.alloc (.cells #[.int .i64 why, .int .i64 (a : Int)] 25) = w1 at *
  have c2 : w1.cell? ⟨p, 2, none⟩ = some (.pointer none) := by rw [HB.out.cell]; rfl
  have f2 := HB.out.frozen 2
  clear c1
  go_wp2
  go_ret
  exact ⟨rfl, ⟨HB.out.set 2 _, HL.out⟩, HN.out.set_ne (fun e => hne e.symm) _, HG.out.trans (Grown.setCell w1 p 2 _ fun _ => rfl)⟩
end Go.Proofs.Ytanmbbckkfkhpaa
