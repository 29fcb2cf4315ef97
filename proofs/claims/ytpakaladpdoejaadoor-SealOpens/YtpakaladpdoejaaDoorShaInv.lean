import Derived.Test.YtpakaladpdoejaaDoorShaBase
namespace Go.Proofs.YtpakaladpdoejaaDoor
open Go.RowKit

section
variable {P : Program} {ops : Array Oper} {Q : Exit → Act → World → Prop} {md : Region.Mode}

theorem getD_lt {l : Array Bool} {i : Nat} (h : l.getD i true = false) : ∃ hi : i < l.size, l[i] = false := by
  by_cases hi : i < l.size
  · exact ⟨hi, by simpa [Array.getD, hi] using h⟩
  · simp [Array.getD, hi] at h

/-- Whatever order a region draws: an invariant of what has been carried out serves. -/
theorem wpAny_inv (I : Array Bool → Act → World → Prop)
    (hs : ∀ l a w, I l a w → l.size = ops.size)
    (hstep : ∀ l a w i o, I l a w → l.getD i true = false → ops[i]? = some o → (∀ e ∈ o.after, Region.binds md e = true → l.getD e.on false = true) →
      o.guard = none ∧ o.wp P a w (I (l.setIfInBounds i true)) Q)
    (hback : ∀ i o, ops[i]? = some o → ∀ e ∈ o.after, Region.binds md e = true → e.on < i)
    (hdone : ∀ l a w, I l a w → (∀ i, i < ops.size → l.getD i false = true) → Q .normal a w) :
    ∀ fuel l a w, l.toList.countP (fun b => !b) ≤ fuel → I l a w → wpAny P md ops Q fuel l a w := by
  have hall : ∀ l a w, I l a w → Region.ready md ops l = [] → ∀ i, i < ops.size → l.getD i false = true := by
    intro l a w hI hr i
    induction i using Nat.strongRecOn with
    | ind i ih =>
      intro hi
      by_cases hc : l.getD i true = false
      · have : i ∈ Region.ready md ops l := mem_ready.2 ⟨hc, ops[i], Array.getElem?_eq_getElem hi, fun e he hb => ih _ (hback i _ (Array.getElem?_eq_getElem hi) e he hb) (Nat.lt_trans (hback i _ (Array.getElem?_eq_getElem hi) e he hb) hi)⟩
        rw [hr] at this; simp at this
      · have hl : i < l.size := by rw [hs l a w hI]; exact hi
        simpa [Array.getD, hl] using hc
  intro fuel
  induction fuel with
  | zero =>
    intro l a w hf hI
    have hnil : Region.ready md ops l = [] := by
      rw [List.eq_nil_iff_forall_not_mem]
      intro j hj
      obtain ⟨hj0, _⟩ := mem_ready.1 hj
      obtain ⟨hlt, hv⟩ := getD_lt hj0
      have : 0 < l.toList.countP (fun b => !b) := List.countP_pos_iff.2 ⟨l[j], by simp, by simp [hv]⟩
      omega
    exact ⟨hnil, hdone l a w hI (hall l a w hI hnil)⟩
  | succ fuel ih =>
    intro l a w hf hI
    refine ⟨fun hnil => hdone l a w hI (hall l a w hI hnil), fun i hi => ?_⟩
    obtain ⟨hj0, o, ho, he⟩ := mem_ready.1 hi
    obtain ⟨hlt, hv⟩ := getD_lt hj0
    obtain ⟨hg, hw⟩ := hstep l a w i o hI hj0 ho he
    unfold wpOp
    simp only [ho, Region.wanted, hg, if_true]
    refine .inl (Oper.wp_mono (fun a' w' h' => ih _ a' w' ?_ h') hw)
    have hc := List.countP_set (p := fun b => !b) (l := l.toList) (i := i) (a := true) (by simpa using hlt)
    have hp : 0 < l.toList.countP (fun b => !b) := List.countP_pos_iff.2 ⟨l[i], by simp, by simp [hv]⟩
    have e1 : l.toList[i]'(by simpa using hlt) = false := by simpa using hv
    rw [Array.toList_setIfInBounds, hc, e1]
    generalize List.countP (fun b => !b) l.toList = n at *
    simp
    omega

/-- A region that draws its order, by an invariant. -/
theorem wp_region_inv {id : Nat} {a : Act} {w : World} (hm : P.follows .mixedOrders = true) (I : Array Bool → Act → World → Prop)
    (hs : ∀ l a w, I l a w → l.size = ops.size)
    (hstep : ∀ l a w i o, I l a w → l.getD i true = false → ops[i]? = some o → (∀ e ∈ o.after, Region.binds .any e = true → l.getD e.on false = true) →
      o.guard = none ∧ o.wp P a w (I (l.setIfInBounds i true)) Q)
    (hback : ∀ i o, ops[i]? = some o → ∀ e ∈ o.after, Region.binds .any e = true → e.on < i)
    (hdone : ∀ l a w, I l a w → (∀ i, i < ops.size → l.getD i false = true) → Q .normal a w)
    (h0 : I (Array.replicate ops.size false) a w.drew) : (Code.region id ops true).wp P Q a w :=
  wp_region_any hm (wpAny_inv I hs hstep hback hdone _ _ _ _ (by simp [List.countP_replicate]) h0)

/-- A new variable at 'Oper.wp'. -/
theorem wp_new {o : Oper} {a : Act} {w : World} {K : Act → World → Prop} (t : TypeId) (ho : o.op = .alloc t)
    (cells : Array Value) (hf : ∀ w : World, (Instr.alloc t true (.tuple #[])).run P w = .ok (.pointer (some ⟨w.heap.size, 0, none⟩)) (w.alloc (.cells cells t)))
    (h : K (a.put o.dst (.pointer (some ⟨w.heap.size, 0, none⟩))) (w.alloc (.cells cells t))) : o.wp P a w K Q := by
  unfold Oper.wp execOp
  simp only [ho, Sem.run_bind, hf w, Result.andThen_ok]
  exact h

end
theorem Tryd.enter47 (w : World) (vs : Array Value) : (callFunc 47 vs).run Tryd.prog w = .ok (.enter 47 vs) w := by kernel_rfl
theorem Tryd.enter48 (w : World) (vs : Array Value) : (callFunc 48 vs).run Tryd.prog w = .ok (.enter 48 vs) w := by kernel_rfl
end Go.Proofs.YtpakaladpdoejaaDoor
