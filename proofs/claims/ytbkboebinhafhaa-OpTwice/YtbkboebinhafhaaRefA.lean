import Derived.Test.YtbkboebinhafhaaOutB
namespace Go.Proofs.Ytbkboebinhafhaa
open Go.RowKit

/-- What a call that answers a list longer than v leaves: v' has the bytes l. -/
def LayPost (v : Value) (l : List Int) (w : World) (e : Ending) (w' : World) : Prop :=
  ∃ v', e = .returned v' ∧ Own w' v' l ∧ Moved w v v' ∧ Grown w w' fun k => v.ownBlock = some k
theorem LayPost.trans {v v1 : Value} {l : List Int} {w w1 w2 : World} {e : Ending} (h : LayPost v1 l w1 e w2) (hm : Moved w v v1) (hg : Grown w w1 fun k => v.ownBlock = some k) : LayPost v l w e w2 := by
  obtain ⟨v2, he, h1, h2, h3⟩ := h
  exact ⟨v2, he, h1, hm.trans hg.size h2, hg.next h3 fun i hi h => hm.old hi h⟩
theorem AppPost.lay {w w' : World} {v v' : Value} {l : List Int} (h : AppPost w v l v' w') : LayPost v l w (.returned v') w' := ⟨v', rfl, h.1, h.moved, h.grown⟩
theorem Own.box {w : World} {v : Value} {l : List Int} (h : Own w v l) (o : Obj) : Own (w.alloc o) v l := h.grown (Grown.alloc w o fun _ => False) fun _ _ h => h
theorem AppPost.box {w w' : World} {v v' : Value} {l : List Int} {o : Obj} (h : AppPost (w.alloc o) v l v' w') : Own w' v' l ∧ Moved w v v' ∧ Grown w w' fun k => v.ownBlock = some k :=
  ⟨h.1, (Moved.refl w v).trans (Grown.alloc w o fun _ => False).size h.moved, (Grown.alloc w o _).next h.grown fun _ _ h => h⟩

set_option maxRecDepth 8000 in
set_option maxHeartbeats 1000000 in
theorem rnum_any (v : Value) (l : List Int) (x : Nat) (w : World) (h : Own w v l) (hx : x < 18446744073709551616) (hb : l.length + (numL x).length ≤ 200000000000000) :
    Calls Try.prog 38 #[v, .int .u64 (x : Int)] w (LayPost v (l ++ numL x) w) := by
  have HO : Keep (Own w v l) := ⟨h⟩
  have HB := Keep.mk hb
  have HX := Keep.mk hx
  clear h hx hb
  go_enter Try.func38, Try.ntmps38
  go_wp2
  go_loopw [0, 1] (fun b i wr => ∃ (y : Nat) (v1 : Value) (l1 : List Int), b = v1 ∧ i = .int .u64 (y : Int) ∧ Keep (y < 18446744073709551616) ∧ Own wr v1 l1 ∧ Keep (l1 ++ numL y = l ++ numL x) ∧ Moved w v v1 ∧ Grown w wr fun k => v.ownBlock = some k) (fun _ i _ => (intOf i).toNat)
  case atStart => exact ⟨x, v, l, rfl, rfl, HX, HO.out, ⟨rfl⟩, Moved.refl _ _, Grown.refl _ _⟩
  case round =>
    obtain ⟨y, v1, l1, rfl, rfl, hy, hO1, hl1, hm1, hg1⟩ := hrel
    by_cases h128 : 128 ≤ y
    · have h128' : (128 : Int) ≤ (y : Int) := by omega
      have HS : Keep (numL y = ((y % 128 + 128 : Nat) : Int) :: numL (y / 128)) := ⟨numL_step y h128 hy.out⟩
      have hlen : Keep (l1.length + [(y : Int) % 128 + 128].length ≤ 200000000000000) := ⟨by
        have e := congrArg List.length hl1.out
        have := HB.out
        rw [HS.out] at e
        simp only [List.length_append, List.length_cons, List.length_nil] at e this ⊢
        omega⟩
      have HO1 := Keep.mk (hO1.box (.cells #[.int .u8 ((y : Int) % 128 + 128)] 5))
      clear hO1
      go_wp2_with (first | (at_builtin; refine wpList_app rfl (.tmp 7) (.tmp 12) rfl _ (.slice (some ⟨wr.heap.size, 0, none⟩) 1 1) l1 [(y : Int) % 128 + 128] rfl rfl HO1.out (row_one wr _) hlen.out ?_; intro v' w' hp; refine Hid.out ?_))
      refine hid_in ?_
      have HP := Keep.mk hp.box
      clear hp
      obtain ⟨z, hz⟩ : ∃ z, Keep (y / 128 = z) := ⟨_, ⟨rfl⟩⟩
      have hz1 : (y : Int) / 128 = (z : Int) := by have := hz.out; omega
      have hwz : IntKind.u64.wrap (z : Int) = (z : Int) := by rw [IntKind.wrap_u64]; have := hz.out; have := hy.out; omega
      go_wp2
      go_roundw
      case rel =>
        obtain ⟨hO2, hm2, hg2⟩ := HP.out
        refine ⟨z, v', l1 ++ [(y : Int) % 128 + 128], rfl, rfl, ⟨by have := hy.out; have := hz.out; omega⟩, hO2, ⟨?_⟩, hm1.trans hg1.size hm2, hg1.next hg2 fun i hi h => hm1.old hi h⟩
        rw [← hl1.out, HS.out, hz.out, List.append_assoc]
        simp
      case measure => simp only [intOf]; have := hz.out; omega
    · have h128' : ¬ (128 : Int) ≤ (y : Int) := by omega
      have HL : Keep (l1 ++ [(y : Int)] = l ++ numL x) := ⟨by rw [← hl1.out, numL_small y (by omega)]⟩
      have hlen : Keep (l1.length + [(y : Int)].length ≤ 200000000000000) := ⟨by
        have e := congrArg List.length HL.out
        have := HB.out
        simp only [List.length_append, List.length_cons, List.length_nil] at e this ⊢
        omega⟩
      have HO1 := Keep.mk (hO1.box (.cells #[.int .u8 (y : Int)] 5))
      clear hO1
      go_wp2_with (first | (at_builtin; refine wpList_app rfl (.tmp 16) (.tmp 19) rfl _ (.slice (some ⟨wr.heap.size, 0, none⟩) 1 1) l1 [(y : Int)] rfl rfl HO1.out (row_one wr _) hlen.out ?_; intro v' w' hp; refine Hid.out ?_))
      refine hid_in ?_
      have HP := Keep.mk hp.box
      clear hp
      go_wp2
      go_ret
      obtain ⟨hO2, hm2, hg2⟩ := HP.out
      refine ⟨v', rfl, ?_, hm1.trans hg1.size hm2, hg1.next hg2 fun i hi h => hm1.old hi h⟩
      rw [← HL.out]; exact hO2
end Go.Proofs.Ytbkboebinhafhaa
