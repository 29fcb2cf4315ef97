import Derived.Test.YtbkboebinhafhaaWide
import Derived.ArgAppend
import Derived.Lib.ConvBytes
namespace Go.Proofs.Ytbkboebinhafhaa
open Go.RowKit

/-- Block k has cells of type T. -/
def Typ (w : World) (k : Nat) (T : TypeId) : Prop := ∃ cs fz, w.heap[k]? = some (.cells cs T fz)
theorem Blk.typ {w : World} {k : Nat} {T : TypeId} {cs : Array Value} (h : Blk w k T cs) : Typ w k T := ⟨cs, _, h⟩
theorem Typ.lt {w : World} {k : Nat} {T : TypeId} (h : Typ w k T) : k < w.heap.size := by
  obtain ⟨cs, fz, h⟩ := h
  exact (Array.getElem?_eq_some_iff.1 h).1
theorem Typ.one {w : World} {k : Nat} {T T' : TypeId} (h : Typ w k T) (h' : Typ w k T') : T = T' := by
  obtain ⟨cs, fz, h⟩ := h
  obtain ⟨cs', fz', h'⟩ := h'
  rw [h] at h'; simp at h'; exact h'.2.1
theorem Typ.ne {w : World} {k k' : Nat} {T T' : TypeId} (h : Typ w k T) (h' : Typ w k' T') (ht : T ≠ T') : k ≠ k' := by
  rintro rfl; exact ht (h.one h')
theorem Grown.typ {a b : World} {S : Nat → Prop} (h : Grown a b S) {k : Nat} {T : TypeId} (hk : Typ a k T) (hs : ¬ S k) : Typ b k T := by
  have hlt := hk.lt
  obtain ⟨cs, fz, h1⟩ := hk
  exact ⟨cs, fz, by rw [h.block k hlt hs]; exact h1⟩
theorem Own.typ {w : World} {v : Value} {l : List Int} (h : Own w v l) {k : Nat} (hk : v.ownBlock = some k) : Typ w k 5 := by
  rcases h.2 with ⟨rfl, _⟩ | ⟨g, cap, cur, rfl, _, h3, _⟩
  · simp [Value.ownBlock] at hk
  · simp [Value.ownBlock] at hk
    subst hk
    exact ⟨cur, _, h3⟩

/-- The slice v owns the bytes l: they stand at the head of a block; behind its cells a mark may be frozen. -/
def OwnT (w : World) (v : Value) (l : List Int) : Prop :=
  (v = .slice none 0 0 ∧ l = []) ∨ ∃ g cap cur fz, v = .slice (some ⟨g, 0, none⟩) l.length cap ∧ w.heap[g]? = some (.cells cur 5 fz) ∧ (fz = (0, 0) ∨ cap ≤ fz.1) ∧ l.length ≤ cap ∧ cap ≤ maxLen ∧ cur.size = cap ∧ cur.toList.take l.length = bv l
theorem Own.tail {w : World} {v : Value} {l : List Int} (h : Own w v l) : OwnT w v l := by
  rcases h.form with h | ⟨g, cap, cur, rfl, hb, h3, h4, h5, h6⟩
  · exact .inl h
  · exact .inr ⟨g, cap, cur, _, rfl, hb, .inl rfl, h3, h4, h5, h6⟩
theorem ownT_nil (w : World) : OwnT w (.slice none 0 0) [] := .inl ⟨rfl, rfl⟩
theorem OwnT.typ {w : World} {v : Value} {l : List Int} (h : OwnT w v l) {k : Nat} (hk : v.ownBlock = some k) : Typ w k 5 := by
  rcases h with ⟨rfl, _⟩ | ⟨g, cap, cur, fz, rfl, h3, _⟩
  · simp [Value.ownBlock] at hk
  · simp [Value.ownBlock] at hk
    subst hk
    exact ⟨cur, _, h3⟩
theorem OwnT.lt {w : World} {v : Value} {l : List Int} (h : OwnT w v l) : ∀ k, v.ownBlock = some k → k < w.heap.size := fun _ hk => (h.typ hk).lt
theorem OwnT.ne {w : World} {v : Value} {l : List Int} {p : Nat} {T : TypeId} {cs : Array Value} (h : OwnT w v l) (hp : Blk w p T cs) (hT : T ≠ 5) : v.ownBlock ≠ some p := fun e => hT (hp.typ.one (h.typ e))
theorem OwnT.grown {w w' : World} {v : Value} {l : List Int} {S : Nat → Prop} (h : OwnT w v l) (hg : Grown w w' S) (hs : ∀ k, v.ownBlock = some k → ¬ S k) : OwnT w' v l := by
  rcases h with h1 | ⟨g, cap, cur, fz, rfl, h3, h4⟩
  · exact .inl h1
  · exact .inr ⟨g, cap, cur, fz, rfl, by rw [hg.block g (Array.getElem?_eq_some_iff.1 h3).1 (hs g rfl)]; exact h3, h4⟩
theorem OwnT.box {w : World} {v : Value} {l : List Int} (h : OwnT w v l) (o : Obj) : OwnT (w.alloc o) v l := h.grown (Grown.alloc w o fun _ => False) fun _ _ h => h
theorem take_get {cur : Array Value} {l : List Int} {n : Nat} (h : cur.toList.take n = bv l) (hl : l.length = n) (t : Nat) (ht : t < n) : cur[t]? = some (.int .u8 (l.getD t 0)) := by
  have h1 := bv_get l t (by omega)
  rw [← h, List.getElem?_take, if_pos ht] at h1
  simpa using h1
theorem OwnT.cells {w : World} {g n cap : Nat} {l : List Int} (h : OwnT w (.slice (some ⟨g, 0, none⟩) n cap) l) (t : Nat) (ht : t < l.length) : w.cell? ⟨g, t, none⟩ = some (.int .u8 (l.getD t 0)) ∧ w.frozen? ⟨g, t, none⟩ = false := by
  rcases h with ⟨e, _⟩ | ⟨g', cap', cur, fz, e, hb, hf, h3, h4, h5, h6⟩
  · cases e
  · injection e with e1 e2 e3
    injection e1 with e1
    injection e1 with e1
    subst e1 e2 e3
    refine ⟨by rw [cell_of_row w g t cur 5 fz hb]; exact take_get h6 rfl t ht, ?_⟩
    rcases hf with rfl | hf
    · simp [World.frozen?, hb]
    · simp only [World.frozen?, hb]
      simp
      omega
theorem OwnT.row {w : World} {v : Value} {l : List Int} (h : OwnT w v l) : RowAt w v l := by
  have h' := h
  rcases h with h1 | ⟨g, cap, cur, fz, rfl, hb, hf, h3, h4, h5, h6⟩
  · exact .inl h1
  · exact .inr (.inr ⟨g, 0, cap, rfl, h3, fun i hi => by rw [Nat.zero_add]; exact (h'.cells i hi).1⟩)
theorem OwnT.sl {w : World} {v : Value} {l : List Int} (h : OwnT w v l) : ∃ a n c, v = .slice a n c := by
  rcases h with ⟨rfl, _⟩ | ⟨g, cap, cur, fz, rfl, _⟩
  · exact ⟨_, _, _, rfl⟩
  · exact ⟨_, _, _, rfl⟩
theorem OwnT.addr {w : World} {va : Option Addr} {n vc : Nat} {l : List Int} (h : OwnT w (.slice va n vc) l) (h0 : 0 < l.length) : ∃ g, va = some ⟨g, 0, none⟩ := by
  rcases h with ⟨_, e⟩ | ⟨g, cap, cur, fz, e, _⟩
  · subst e; simp at h0
  · injection e with e1 _ _
    exact ⟨g, e1⟩
theorem bv_set (l : List Int) (t : Nat) (c : Int) : (bv l).set t (.int .u8 c) = bv (l.set t c) := by simp [bv, List.map_set]
theorem OwnT.set {w : World} {g n cap : Nat} {l : List Int} (h : OwnT w (.slice (some ⟨g, 0, none⟩) n cap) l) (t : Nat) (c : Int) : OwnT (w.setCell ⟨g, t, none⟩ (.int .u8 c)) (.slice (some ⟨g, 0, none⟩) n cap) (l.set t c) := by
  rcases h with ⟨e, _⟩ | ⟨g', cap', cur, fz, e, hb, hf, h3, h4, h5, h6⟩
  · cases e
  · injection e with e1 e2 e3
    injection e1 with e1
    injection e1 with e1
    subst e1 e2 e3
    refine .inr ⟨g, cap, cur.setIfInBounds t (.int .u8 c), fz, by rw [List.length_set], ?_, hf, by rw [List.length_set]; exact h3, h4, by simp [h5], ?_⟩
    · rw [setCell_eq_setRow w g t cur 5 fz _ hb]; exact setRow_heap w g cur _ 5 fz hb
    · rw [Array.toList_setIfInBounds, List.length_set, List.take_set, h6, bv_set]
theorem OwnT.plain {w : World} {va : Option Addr} {n vc : Nat} {l : List Int} (h : OwnT w (.slice va n vc) l) : (∀ a, va = some a → a.off = 0 ∧ a.spot = none) ∧ (va = none → n = 0 ∧ vc = 0) ∧ n ≤ vc ∧ n = l.length := by
  rcases h with ⟨e, e2⟩ | ⟨g, cap, cur, fz, e, hb, _, h3, _⟩
  · injection e with e1 e2 e3
    subst e1 e2 e3
    subst e2
    exact ⟨fun a ha => by simp at ha, fun _ => ⟨rfl, rfl⟩, by omega, rfl⟩
  · injection e with e1 e2 e3
    subst e1 e2 e3
    exact ⟨fun a ha => by simp at ha; subst ha; exact ⟨rfl, rfl⟩, fun h => by simp at h, h3, rfl⟩
/-- What append leaves: in the row's own block, or the row anew, the old one untouched. -/
def AppPostT (w : World) (v : Value) (l : List Int) (v' : Value) (w' : World) : Prop :=
  OwnT w' v' l ∧ ((v'.ownBlock = v.ownBlock ∧ Grown w w' fun k => v.ownBlock = some k) ∨ (v'.ownBlock = some w.heap.size ∧ Below w.heap.size w w'))
theorem AppPostT.grown {w w' : World} {v v' : Value} {l : List Int} (h : AppPostT w v l v' w') : Grown w w' fun k => v.ownBlock = some k := by
  rcases h.2 with h | h
  · exact h.2
  · exact Grown.below h.2
theorem AppPost.tail {w w' : World} {v v' : Value} {l : List Int} (h : AppPost w v l v' w') : AppPostT w v l v' w' := ⟨h.1.tail, h.2⟩
theorem take_set_next (L : List Value) (n : Nat) (x : Value) (h : n < L.length) : (L.set n x).take (n + 1) = L.take n ++ [x] := by
  rw [List.take_succ_eq_append_getElem (by rw [List.length_set]; exact h), List.getElem_set_self]
  congr 1
  rw [List.take_set]
  exact List.set_eq_of_length_le (by simp; omega)
/-- One byte behind a row. -/
theorem run_app_one (w : World) (ty : TypeId) (v : Value) (l : List Int) (hown : OwnT w v l) (g1 : Nat) (m : Int) (hc : w.cell? ⟨g1, 0, none⟩ = some (.int .u8 m)) (hb : l.length + 1 ≤ 140737488355328) :
    ∃ v' w', (Builtin.append_ #[36, 36] ty #[v, .slice (some ⟨g1, 0, none⟩) 1 1]).run Try.prog w = .ok v' w' ∧ AppPostT w v (l ++ [m]) v' w' := by
  obtain ⟨i, hi, hzz⟩ := Option.map_eq_some_iff.1 Try.info5
  simp only [Prod.mk.injEq] at hzz
  obtain ⟨hz, hsz, hby⟩ := hzz
  have hnews : ∀ j u, (bv [m])[j]? = some u → w.cell? ((⟨g1, 0, none⟩ : Addr).add j) = some u := fun j u hu => by
    cases j with
    | zero => simp [bv] at hu; subst hu; exact hc
    | succ j => simp [bv] at hu
  rcases hown with ⟨rfl, rfl⟩ | ⟨g, cap, cur, fz, rfl, hg, hf, hnc, hcm, hcs, htake⟩
  · obtain ⟨v', w', hr, hp⟩ := run_app_cells w ty (.slice none 0 0) [] (own_nil w) ⟨g1, 0, none⟩ 1 [m] hnews (by simp)
    exact ⟨v', w', hr, hp.tail⟩
  · by_cases hroom : l.length + 1 ≤ cap
    · have hcell : (w.cell? ⟨g, l.length, none⟩).isSome = true := by
        rw [cell_of_row w g l.length cur 5 fz hg, Array.getElem?_eq_getElem (by omega)]; rfl
      have hfr : w.frozen? ⟨g, l.length, none⟩ = false := by
        rcases hf with rfl | hf
        · simp [World.frozen?, hg]
        · simp only [World.frozen?, hg]
          simp
          omega
      have hr := run_append_room_cells (P := Try.prog) w 36 ty 5 i Try.underlying36 hi g 0 l.length cap ⟨g1, 0, none⟩ 1 1 (bv [m]) (by rw [bv_len, hsz]; rfl) hnews (bv_one _) hroom
        (fun j hj => by
          have e : j = 0 := by rw [bv_len] at hj; simpa using hj
          subst e; rw [hsz]; simpa using hcell)
        (fun j hj => by
          have e : j = 0 := by rw [bv_len] at hj; simpa using hj
          subst e; rw [hsz]; simpa using hfr)
      have e : w.setCells g (0 + l.length * i.size) (bv [m]) = w.setCell ⟨g, l.length, none⟩ (.int .u8 m) := by
        rw [hsz, Nat.mul_one, Nat.zero_add]; rfl
      rw [e] at hr
      refine ⟨_, _, hr, .inr ⟨g, cap, cur.setIfInBounds l.length (.int .u8 m), fz, by simp, ?_, hf, by simpa using hroom, hcm, by simp [hcs], ?_⟩, .inl ⟨rfl, Grown.setCell w g _ _ fun _ => rfl⟩⟩
      · rw [setCell_eq_setRow w g l.length cur 5 fz _ hg]; exact setRow_heap w g cur _ 5 fz hg
      · have hlt9 : l.length < cur.toList.length := by simp; omega
        rw [Array.toList_setIfInBounds, List.length_append, List.length_singleton, bv_app, ← htake, take_set_next cur.toList l.length (.int .u8 m) hlt9]
        rfl
    · have holds : ∀ j u, (bv l)[j]? = some u → w.cell? ((⟨g, 0, none⟩ : Addr).add j) = some u := fun j u hu => by
        have hj : j < l.length := by have := (List.getElem?_eq_some_iff.1 hu).1; rwa [bv_len] at this
        rw [bv_get l j hj] at hu
        rw [Addr.add_mid, Nat.zero_add, cell_of_row w g j cur 5 fz hg, take_get htake rfl j hj]; exact hu
      obtain ⟨v', w', hr, h1, h2⟩ := run_append_arg_grows (P := Try.prog) w 36 ty 5 i (.int .u8 0) 1 1 Try.underlying36 hi hz hsz hby rfl (by omega) ⟨g, 0, none⟩ l.length cap (bv l) (by rw [bv_len]; omega) holds ⟨g1, 0, none⟩ 1 1 (bv [m]) (by rw [bv_len]; rfl) hnews (by omega) (by unfold maxLen; omega) (by omega)
      have hr2 := run_append_grow (P := Try.prog) w 36 ty 5 i (.int .u8 0) Try.underlying36 hi hz ⟨g, 0, none⟩ l.length cap (bv l) (by rw [bv_len, hsz]; omega) holds ⟨g1, 0, none⟩ 1 1 (bv [m]) (by rw [bv_len, hsz]; rfl) hnews (by omega) (by omega) (by rw [hby]; exact growslice_fits (by omega) (by omega))
      have e := hr.symm.trans hr2
      injection e with e1 e2
      have hO : Own w' v' (l ++ [m]) := by
        refine ⟨by rw [bv_len]; omega, ?_⟩
        rcases h1.2 with ⟨_, h0⟩ | ⟨g', cap', cur', e', _, hb', h3', h4', h5', h6'⟩
        · omega
        · refine .inr ⟨g', cap', cur', by rw [List.length_append]; exact e', Nat.zero_le _, hb', by rw [List.length_append]; exact h3', h4', h5', ?_⟩
          rw [List.length_append, bv_app]; exact h6'
      refine ⟨v', w', hr, hO.tail, .inr ⟨by rw [e1]; rfl, h2.os, h2.tape, h2.output, h2.size, fun k hk => h2.block k hk (by simp)⟩⟩
theorem wpList_appT {ops : Array Oper} {rest : List Oper} {o : Oper} {a : Act} {w : World} {Q : Exit → Act → World → Prop} (hgd : o.guard = none) (s x : Operand)
    (ho : o.op = .call { callee := .builtin .append, args := #[s, x], argTypes := #[36, 36] }) (v : Value) (l : List Int) (g1 : Nat) (m : Int)
    (hs : a.eval s = v) (hx : a.eval x = .slice (some ⟨g1, 0, none⟩) 1 1) (hown : OwnT w v l) (hc : w.cell? ⟨g1, 0, none⟩ = some (.int .u8 m)) (hb : l.length + 1 ≤ 140737488355328)
    (h : ∀ v' w', AppPostT w v (l ++ [m]) v' w' → wpList Try.prog ops Q rest (a.put o.dst v') w') : wpList Try.prog ops Q (o :: rest) a w := by
  refine wpList_plain hgd fun K hK => ?_
  obtain ⟨v', w', hr, h2⟩ := run_app_one w o.type v l hown g1 m hc hb
  unfold Oper.wp execOp
  simp only [ho, resolve, invoke, builtin, Sem.run_bind, Sem.run_pure, Result.andThen_ok, List.map_toArray, List.map_cons, List.map_nil, hs, hx, hr]
  exact hK _ _ (h v' w' h2)
theorem cell_one (w : World) (x : Value) (t : TypeId) : (w.alloc (.cells #[x] t)).cell? ⟨w.heap.size, 0, none⟩ = some x := by rw [(Blk.new w t #[x]).cell]; rfl

/-- A text as bytes. -/
theorem conv_bytes (w : World) (s : ByteArray) (hb : s.size ≤ 140737488355328) : ∃ v w', (convert 9 36 (.string s)).run Try.prog w = .ok v w' ∧ OwnT w' v (lst s) ∧ v.ownBlock = some w.heap.size ∧ Below w.heap.size w w' := by
  have hr := Lib.run_convert_string_bytes (P := Try.prog) w 9 36 5 s Try.underlying9 Try.underlying36 Try.underlying5
  refine ⟨_, _, hr, ?_, rfl, ⟨rfl, rfl, rfl, ?_, fun k hk => Lib.bytesWorld_at_old w 5 s k hk⟩⟩
  · have hge := grownCap_ge w s.size 0 5
    have hcs : (Lib.bytesCells w 5 s).size = grownCap w s.size 0 5 := by
      have : s.data.size = s.size := rfl
      simp [Lib.bytesCells]; omega
    refine .inr ⟨w.heap.size, grownCap w s.size 0 5, _, _, by rw [lst_len], Lib.bytesWorld_at_new w 5 s, .inr (by rw [hcs]; exact Nat.le_refl _), by rw [lst_len]; exact hge, grownCap_le_maxLen w _ _ _ (by unfold maxLen; omega), hcs, ?_⟩
    rw [lst_len, ← lst_cells]
    simp only [Lib.bytesCells, Array.toList_append, Lib.strCells]
    rw [List.take_append_of_le_length (by simp), List.take_of_length_le (by simp)]
    simp
  · rw [Lib.bytesWorld_size]; omega
end Go.Proofs.Ytbkboebinhafhaa
