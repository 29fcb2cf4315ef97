import Derived.Test.YtogmdfhicbmplaaB09
import Derived.Test.YtogmdfhicbmplaaB08
namespace Go.Proofs.Ytogmdfhicbmplaa
open Go.RowKit
set_option linter.unusedSimpArgs false
set_option linter.unusedVariables false

theorem Try.in16 (w : World) (vs : Array Value) : (callFunc 16 vs).run Try.prog w = .ok (.enter 16 vs) w := by kernel_rfl
theorem Try.in65 (w : World) (vs : Array Value) : (callFunc 65 vs).run Try.prog w = .ok (.enter 65 vs) w := by kernel_rfl
theorem run_appM (w : World) (ty : TypeId) (v vx : Value) (l M : List Hs) (hown : OwnH w v l) (hr : HRow w vx M) (hb : l.length + M.length ≤ 1000000000000) :
  ∃ v' w', (Builtin.append_ #[37, 37] ty #[v, vx]).run Try.prog w = .ok v' w' ∧ OwnH w' v' (l ++ M) ∧ (Grown w w' fun k => v.ownBlock = some k) ∧ Moved w v v' := by
 obtain ⟨i, hi, hzz⟩ := Option.map_eq_some_iff.1 Try.infoH
 simp only [Prod.mk.injEq] at hzz
 obtain ⟨hz, hsz, hby⟩ := hzz
 have hzs : (Value.agg (bytesA 32 fun _ => 0)).cells.size = 32 := by show (bytesA 32 fun _ => 0).size = 32; exact bytesA_size _ _
 have some_ : ∀ (a : Addr) (c : Nat), vx = .slice (some a) M.length c → (∀ j u, (flatH M)[j]? = some u → w.cell? (a.add j) = some u) → ∃ v' w', (Builtin.append_ #[37, 37] ty #[v, vx]).run Try.prog w = .ok v' w' ∧ OwnH w' v' (l ++ M) ∧ (Grown w w' fun k => v.ownBlock = some k) ∧ Moved w v v' := by
  intro a c e hc
  obtain ⟨v', w', hr, h1, h2, _, h3⟩ := run_append_own_at (P := Try.prog) w 0 37 ty 36 i (.agg (bytesA 32 fun _ => 0)) 32 32 Try.underlying37 hi hz hsz hby hzs (by omega) v l.length (flatH l) hown a M.length c (flatH M) (flatH_len M) hc (flatH_one M) (by unfold maxLen; omega) (by omega) (Nat.zero_le _)
  refine ⟨v', w', by rw [e]; exact hr, ?_, Grown.of h2 fun k _ e => e, ?_⟩
  ·unfold OwnH
   rw [List.length_append, flatH_app]
   exact h1
  ·rcases h3 with h3 | h3
   ·exact .inl h3
   ·exact .inr ⟨_, h3, Nat.le_refl _⟩
 rcases hr with ⟨ad, c, rfl, rfl, hac⟩ | ⟨b, off, cap, rfl, hcap, hc⟩
 ·cases ad with
  | none =>
   obtain rfl := hac rfl
   exact ⟨v, w, run_append_owned_none (P := Try.prog) (w := w) 0 37 ty 36 i 32 Try.underlying37 hi v l.length _ hown, by rw [List.append_nil]; exact hown, Grown.refl _ _, Moved.refl _ _⟩
  | some ad => exact some_ ad c rfl (fun j u hu => by simp [flatH_nil] at hu)
 ·exact some_ ⟨b, off, none⟩ cap rfl (fun j u hu => by rw [Addr.add_mid]; exact hc j u hu)
theorem WL.appM {ops : Array Oper} {rest : List Oper} {o : Oper} {a : Act} {w : World} {Q : Exit → Act → World → Prop} (hw : Region.wanted o (yielded ops a.tmps) = true) (s x : Operand)
  (ho : o.op = .call { callee := .builtin .append, args := #[s, x], argTypes := #[37, 37] }) (v vx : Value) (l M : List Hs) (hs : a.eval s = v) (hx : a.eval x = vx) (hown : OwnH w v l) (hr : HRow w vx M) (hb : l.length + M.length ≤ 1000000000000)
  (h : ∀ v' w', OwnH w' v' (l ++ M) → (Grown w w' fun k => v.ownBlock = some k) → Moved w v v' → WL Try.prog ops Q rest (a.put o.dst v') w') : WL Try.prog ops Q (o :: rest) a w :=
 ⟨wpList_wanted hw fun K hK => by
  obtain ⟨v', w', hr, h1, h2, h3⟩ := run_appM w o.type v vx l M hown hr hb
  unfold Oper.wp execOp
  simp only [ho, resolve, invoke, builtin, Sem.run_bind, Sem.run_pure, Result.andThen_ok, List.map_toArray, List.map_cons, List.map_nil, hs, hx, hr]
  exact hK _ _ (h v' w' h1 h2 h3).out⟩
end Go.Proofs.Ytogmdfhicbmplaa
