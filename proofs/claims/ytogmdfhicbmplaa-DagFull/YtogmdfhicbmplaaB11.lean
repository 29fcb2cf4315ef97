import Derived.Test.YtogmdfhicbmplaaB10
import Derived.Test.YtogmdfhicbmplaaB09
namespace Go.Proofs.Ytogmdfhicbmplaa
open Go.RowKit
set_option linter.unusedSimpArgs false
set_option linter.unusedVariables false

theorem Try.in16 (w : World) (vs : Array Value) : (callFunc 16 vs).run Try.prog w = .ok (.enter 16 vs) w := by kernel_rfl
theorem Try.in65 (w : World) (vs : Array Value) : (callFunc 65 vs).run Try.prog w = .ok (.enter 65 vs) w := by kernel_rfl
theorem run_appM (w : World) (ty : TypeId) (v vx : Value) (l M : List Hs) (hown : OwnH w v l) (hr : HRow w vx M) (hb : l.length + M.length ≤ 1000000000000) :
  ∃ v' w', (Builtin.append_ #[37, 37] ty #[v, vx]).run Try.prog w = .ok v' w' ∧ OwnH w' v' (l ++ M) ∧ (Grown w w' fun k => v.ownBlock = some k) ∧ Moved w v v' := by
 obtain ⟨i, hi, hzz⟩ := Option.map_eq_some_iff.1 Try.infoH
 simp only [Prod.mk.injEq] at hzz
 obtain ⟨hz, hsz, hby⟩ := hzz
 have hzs : (Value.agg (bytesA 32 fun _ => 0)).cells.size = 32 := by show (bytesA 32 fun _ => 0).size = 32; exact bytesA_size _ _
 have some_ : ∀ (a : Addr) (c : Nat), vx = .slice (some a) M.length c → (∀ j u, (flatH M)[j]? = some u → w.cell? (a.add j) = some u) → ∃ v' w', (Builtin.append_ #[37, 37] ty #[v, vx]).run Try.prog w = .ok v' w' ∧ OwnH w' v' (l ++ M) ∧ (Grown w w' fun k => v.ownBlock = some k) ∧ Moved w v v' := by
  intro a c e hc
  obtain ⟨v', w', hr, h1, h2, _, h3⟩ := run_append_own_at (P := Try.prog) w 0 37 ty 36 i (.agg (bytesA 32 fun _ => 0)) 32 32 Try.underlying37 hi hz hsz hby hzs (by omega) v l.length (flatH l) hown a M.length c (flatH M) (flatH_len M) hc (flatH_one M) (by unfold maxLen; omega) (by omega) (Nat.zero_le _)
  refine ⟨v', w', by rw [e]; exact hr, ?_, Grown.of h2 fun k _ e => e, ?_⟩
  ·unfold OwnH
   rw [List.length_append, flatH_app]
   exact h1
  ·rcases h3 with h3 | h3
   ·exact .inl h3
   ·exact .inr ⟨_, h3, Nat.le_refl _⟩
 rcases hr with ⟨ad, c, rfl, rfl, hac⟩ | ⟨b, off, cap, rfl, hcap, hc⟩
 ·cases ad with
  | none =>
   obtain rfl := hac rfl
   exact ⟨v, w, run_append_owned_none (P := Try.prog) (w := w) 0 37 ty 36 i 32 Try.underlying37 hi v l.length _ hown, by rw [List.append_nil]; exact hown, Grown.refl _ _, Moved.refl _ _⟩
  | some ad => exact some_ ad c rfl (fun j u hu => by simp [flatH_nil] at hu)
 ·exact some_ ⟨b, off, none⟩ cap rfl (fun j u hu => by rw [Addr.add_mid]; exact hc j u hu)
theorem WL.appM {ops : Array Oper} {rest : List Oper} {o : Oper} {a : Act} {w : World} {Q : Exit → Act → World → Prop} (hw : Region.wanted o (yielded ops a.tmps) = true) (s x : Operand)
  (ho : o.op = .call { callee := .builtin .append, args := #[s, x], argTypes := #[37, 37] }) (v vx : Value) (l M : List Hs) (hs : a.eval s = v) (hx : a.eval x = vx) (hown : OwnH w v l) (hr : HRow w vx M) (hb : l.length + M.length ≤ 1000000000000)
  (h : ∀ v' w', OwnH w' v' (l ++ M) → (Grown w w' fun k => v.ownBlock = some k) → Moved w v v' → WL Try.prog ops Q rest (a.put o.dst v') w') : WL Try.prog ops Q (o :: rest) a w :=
 ⟨wpList_wanted hw fun K hK => by
  obtain ⟨v', w', hr, h1, h2, h3⟩ := run_appM w o.type v vx l M hown hr hb
  unfold Oper.wp execOp
  simp only [ho, resolve, invoke, builtin, Sem.run_bind, Sem.run_pure, Result.andThen_ok, List.map_toArray, List.map_cons, List.map_nil, hs, hx, hr]
  exact hK _ _ (h v' w' h1 h2 h3).out⟩
theorem ix_neg {x : Hs} : ∀ (l : List Hs) (t : Nat), ixF x l t < 0 ↔ x ∉ l
 | [], t => by simp [ixF]
 | y :: r, t => by
  rw [ixF]
  by_cases h : x = y
  ·rw [if_pos h]; simp [h]
  ·rw [if_neg h, ix_neg r (t + 1)]; simp [h]
/-- What was gathered of those at the end of the order. -/
structure GatD (g : DG) (R Hh Nn : List Hs) : Prop where
 nm : ∀ x, x ∈ Nn ↔ ∃ y ∈ R, x ∈ parH g.held y
 hh : ∀ x, x ∈ Hh ↔ x ∈ R ∧ ∀ y ∈ R, x ∉ parH g.held y
theorem GatD.step {g : DG} (h : DI g) {i : Nat} {y : Hs} {v : VX} {Hh Nn : List Hs} (hy : g.order[i]? = some y) (hv : g.held.find? (isV y) = some v) (k : GatD g (g.order.drop (i + 1)) Hh Nn) :
  GatD g (g.order.drop i) (if ixF y Nn 0 < 0 then Hh ++ [y] else Hh) (Nn ++ v.ps) := by
 have hil := (List.getElem?_eq_some_iff.1 hy).1
 have hd : g.order.drop i = y :: g.order.drop (i + 1) := by rw [List.drop_eq_getElem_cons hil, (List.getElem?_eq_some_iff.1 hy).2]
 have hp : parH g.held y = v.ps := by unfold parH; rw [hv]
 have later : ∀ x, x ∈ g.order.drop (i + 1) → x ∉ v.ps := fun x hx hc => by
  obtain ⟨j, hj⟩ := mem_at hx
  rw [List.getElem?_drop] at hj
  have := h.oo.top i (i + 1 + j) y x hy hj (by rw [hp]; exact hc)
  omega
 have self : y ∉ v.ps := fun hc => by have := h.oo.top i i y y hy hy (by rw [hp]; exact hc); omega
 refine ⟨fun x => ?_, fun x => ?_⟩
 ·rw [List.mem_append, k.nm, hd]
  constructor
  ·rintro (⟨z, h1, h2⟩ | h1)
   ·exact ⟨z, List.mem_cons_of_mem _ h1, h2⟩
   ·exact ⟨y, List.mem_cons_self, by rw [hp]; exact h1⟩
  ·rintro ⟨z, h1, h2⟩
   rcases List.mem_cons.1 h1 with rfl | h1
   ·exact .inr (by rw [← hp]; exact h2)
   ·exact .inl ⟨z, h1, h2⟩
 ·rw [hd]
  by_cases hx : ixF y Nn 0 < 0
  ·rw [if_pos hx, List.mem_append, k.hh, List.mem_singleton]
   rw [ix_neg, k.nm] at hx
   constructor
   ·rintro (⟨h1, h2⟩ | rfl)
    ·refine ⟨List.mem_cons_of_mem _ h1, fun z hz => ?_⟩
     rcases List.mem_cons.1 hz with rfl | hz
     ·rw [hp]; exact later x h1
     ·exact h2 z hz
    ·refine ⟨List.mem_cons_self, fun z hz => ?_⟩
     rcases List.mem_cons.1 hz with rfl | hz
     ·rw [hp]; exact self
     ·exact fun hc => hx ⟨z, hz, hc⟩
   ·rintro ⟨h1, h2⟩
    rcases List.mem_cons.1 h1 with rfl | h1
    ·exact .inr rfl
    ·exact .inl ⟨h1, fun z hz => h2 z (List.mem_cons_of_mem _ hz)⟩
  ·rw [if_neg hx, k.hh]
   rw [ix_neg, Classical.not_not, k.nm] at hx
   constructor
   ·rintro ⟨h1, h2⟩
    refine ⟨List.mem_cons_of_mem _ h1, fun z hz => ?_⟩
    rcases List.mem_cons.1 hz with rfl | hz
    ·rw [hp]; exact later x h1
    ·exact h2 z hz
   ·rintro ⟨h1, h2⟩
    rcases List.mem_cons.1 h1 with rfl | h1
    ·obtain ⟨z, hz, hc⟩ := hx
     exact absurd hc (h2 z (List.mem_cons_of_mem _ hz))
    ·exact ⟨h1, fun z hz => h2 z (List.mem_cons_of_mem _ hz)⟩
theorem GatD.heads {g : DG} (h : DI g) {Hh Nn : List Hs} (k : GatD g g.order Hh Nn) (x : Hs) : x ∈ Hh ↔ x ∈ g.heads := by
 rw [k.hh, h.hm, h.om]
 constructor
 ·rintro ⟨h1, h2⟩
  refine ⟨h1, fun v hv => ?_⟩
  have := h2 v.id ((h.om _).2 (hasB_iff.2 ⟨v, hv, rfl⟩))
  rw [parH_mem h.hn hv] at this
  exact this
 ·rintro ⟨h1, h2⟩
  refine ⟨h1, fun y hy => ?_⟩
  obtain ⟨v, _, hvm, hve⟩ := find_has ((h.om y).1 hy)
  rw [← hve, parH_mem h.hn hvm]
  exact h2 v hvm
end Go.Proofs.Ytogmdfhicbmplaa
