import Derived.Test.YtbbhjgflaiacaaaOrdE
import Derived.Laws.AppendOwnNone
namespace Go.Proofs.Ytbbhjgflaiacaaa
open Go.RowKit Go.Sort

theorem Try.info23 : (Try.prog.info? 23).map (fun i => (i.zero, i.size, i.bytes)) = some (some (.agg (bytesA 32 fun _ => 0)), 32, 32) := by kernel_rfl
theorem Try.bs0 (w : World) : (Instr.buildSlice 45 0 #[]).run Try.prog w = .ok (.slice (some ⟨w.heap.size, 0, none⟩) 0 0) (w.alloc (.cells #[] 23)) := by kernel_rfl
theorem Try.bs1 (c : Nat → Int) (w : World) : (Instr.buildSlice 45 1 #[(0, .agg (bytesA 32 c))]).run Try.prog w = .ok (.slice (some ⟨w.heap.size, 0, none⟩) 1 1) (w.alloc (.cells (bytesA 32 c) 23)) := by kernel_rfl

/-- A literal of hashes. -/
theorem wpList_bs {P : Program} {ops : Array Oper} {rest : List Oper} {o : Oper} {a : Act} {w : World} {Q : Exit → Act → World → Prop} (hg : o.guard = none) (t : TypeId) (n : Nat) (parts : Array (Nat × Operand)) (ho : o.op = .buildSlice t n parts)
    (vs : Array (Nat × Value)) (hv : (parts.map fun (i, x) => (i, a.eval x)) = vs) (v : Value) (w' : World) (hrun : (Instr.buildSlice t n vs).run P w = .ok v w')
    (h : wpList P ops Q rest (a.put o.dst v) w') : wpList P ops Q (o :: rest) a w := by
  refine wpList_plain hg fun K hK => ?_
  unfold Oper.wp execOp
  simp only [ho, hv, Sem.run_bind, hrun, Result.andThen_ok]
  exact hK _ _ h

theorem ownsH_nil (w : World) (base : Nat) : w.ownsRow base 23 32 (.slice none 0 0) 0 (flatH []) := ⟨rfl, .inl ⟨rfl, rfl⟩⟩
theorem ownsH_block {w : World} {base : Nat} {v : Value} {n : Nat} {xs : List Value} (h : w.ownsRow base 23 32 v n xs) : ∀ k, v.ownBlock = some k → base ≤ k := by
  intro k hk
  obtain ⟨_, h2⟩ := h
  rcases h2 with ⟨rfl, _⟩ | ⟨g, cap, cur, rfl, hg, _⟩
  · simp [Value.ownBlock] at hk
  · simp [Value.ownBlock] at hk; omega

/-- A row of hashes behind hashes of the call's own. -/
theorem wpList_appH {ops : Array Oper} {rest : List Oper} {o : Oper} {a : Act} {w : World} {Q : Exit → Act → World → Prop} (hgd : o.guard = none) (s x : Operand)
    (ho : o.op = .call { callee := .builtin .append, args := #[s, x], argTypes := #[45, 45] }) (base : Nat) (v vx : Value) (L M : List Hs)
    (hs : a.eval s = v) (hx : a.eval x = vx) (hown : w.ownsRow base 23 32 v L.length (flatH L)) (hrow : HRow w vx M) (hb : L.length + M.length ≤ 4398046511104) (hbase : base ≤ w.heap.size)
    (h : ∀ v' w', w'.ownsRow base 23 32 v' (L ++ M).length (flatH (L ++ M)) → w.grownBy w' v.ownBlock → wpList Try.prog ops Q rest (a.put o.dst v') w') : wpList Try.prog ops Q (o :: rest) a w := by
  obtain ⟨i, hi, hzz⟩ := Option.map_eq_some_iff.1 Try.info23
  simp only [Prod.mk.injEq] at hzz
  obtain ⟨hz, hsz, hby⟩ := hzz
  have hzs : (Value.agg (bytesA 32 fun _ => 0)).cells.size = 32 := by show (bytesA 32 fun _ => 0).size = 32; exact bytesA_size _ _
  rw [flatH_app, List.length_append] at h
  rcases hrow with ⟨ad, c, rfl, rfl, hac⟩ | ⟨b, off, cap, rfl, hcap, hc⟩
  · cases ad with
    | none =>
      obtain rfl := hac rfl
      refine wpList_append_own_none hgd s x 45 ho base 23 i 32 Try.underlying45 hi v L.length _ hs hown hx (h v w ?_ (World.grownBy.refl w _))
      simpa [flatH_nil] using hown
    | some ad =>
      refine wpList_append_own w hgd s x 45 ho base 23 i _ 32 32 Try.underlying45 hi hz hsz hby hzs (by omega) v L.length _ hs hown ad 0 c [] hx rfl (fun j u hu => by simp at hu) (fun u hu => by simp at hu) (by unfold maxLen; simp at hb; omega) (by simp at hb; omega) hbase ?_
      intro v' w' h1 h2 _
      exact h v' w' h1 h2
  · refine wpList_append_own w hgd s x 45 ho base 23 i _ 32 32 Try.underlying45 hi hz hsz hby hzs (by omega) v L.length _ hs hown ⟨b, off, none⟩ M.length cap (flatH M) hx (flatH_len M)
      (fun j u hu => by rw [Addr.add_mid]; exact hc j u hu) (flatH_one M) (by unfold maxLen; omega) (by omega) hbase ?_
    intro v' w' h1 h2 _
    exact h v' w' h1 h2
end Go.Proofs.Ytbbhjgflaiacaaa
