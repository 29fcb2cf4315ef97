import Derived.Test.YtjklmkeedhgncaaU13
import Derived.Test.YtjklmkeedhgncaaU06
import Derived.Test.YtjklmkeedhgncaaU09
namespace Go.Proofs.Ytjklmkeedhgncaa
open Go.RowKit
set_option linter.unusedSimpArgs false
set_option linter.unusedVariables false
theorem Try.in12 (w : World) (vs : Array Value) : (callFunc 12 vs).run Try.prog w = .ok (.enter 12 vs) w := by kernel_rfl
theorem Try.newW (w : World) : (Instr.alloc 31 true (.tuple #[])).run Try.prog w = .ok (.pointer (some ⟨w.heap.size, 0, none⟩)) (w.alloc (.cells #[.int .i64 0, .slice none 0 0] 31)) := by kernel_rfl
theorem bldW : Try.prog.built 31 [] = some #[.int .i64 0, .slice none 0 0] := by kernel_rfl
theorem bldW1 (n : Int) : Try.prog.built 31 [(0, .int .i64 n)] = some #[.int .i64 n, .slice none 0 0] := by kernel_rfl
theorem bldLf (k j : Int) (s : ByteArray) (a : Option Addr) (n c : Nat) (a' : Option Addr) (n' c' : Nat) : Try.prog.built 69 [(0, .int .i64 k), (1, .agg #[.int .i64 j, .string s, .slice a n c]), (2, .slice a' n' c')] = some #[.int .i64 k, .int .i64 j, .string s, .slice a n c, .slice a' n' c'] := by kernel_rfl
theorem bsLf (k j : Int) (s : ByteArray) (a : Option Addr) (n c : Nat) (a' : Option Addr) (n' c' : Nat) (w : World) : (Instr.buildSlice 29 1 #[(0, .agg #[.int .i64 k, .int .i64 j, .string s, .slice a n c, .slice a' n' c'])]).run Try.prog w = .ok (.slice (some ⟨w.heap.size, 0, none⟩) 1 1) (w.alloc (.cells #[.int .i64 k, .int .i64 j, .string s, .slice a n c, .slice a' n' c'] 69)) := by kernel_rfl
theorem infoLf : (Try.prog.info? 69).map (fun i => (i.zero, i.size, i.bytes)) = some (some (.agg #[.int .i64 0, .int .i64 0, .string ByteArray.empty, .slice none 0 0, .slice none 0 0]), 5, 80) := by kernel_rfl
theorem run_appLf (w : World) (ty : TypeId) (B : Nat) (v : Value) (n : Nat) (xs : List Value) (x : LV) (g : Nat) (hown : w.ownsRow B 69 5 v n xs) (hc : w.rangeAt g 0 (lvA x).toList) (ho : (lvA x).all (·.oneCell') = true) (hb : n + 1 ≤ 1048576) (hB : B ≤ w.heap.size) :
    ∃ v' w', (Builtin.append_ #[29, 29] ty #[v, .slice (some ⟨g, 0, none⟩) 1 1]).run Try.prog w = .ok v' w' ∧ w'.ownsRow B 69 5 v' (n + 1) (xs ++ (lvA x).toList) ∧ (Grown w w' fun k => v.ownBlock = some k) ∧ (v'.ownBlock = v.ownBlock ∨ v'.ownBlock = some w.heap.size) := by
  obtain ⟨i, hi, hzz⟩ := Option.map_eq_some_iff.1 infoLf
  simp only [Prod.mk.injEq] at hzz
  obtain ⟨hz, hsz, hby⟩ := hzz
  obtain ⟨v', w', hr, h1, h2, _, h3⟩ := run_append_own_at (P := Try.prog) w B 29 ty 69 i _ 5 80 Try.underlying29 hi hz hsz hby rfl (by omega) v n xs hown ⟨g, 0, none⟩ 1 1 (lvA x).toList rfl (fun j u hu => by rw [Addr.add_mid]; exact hc j u hu) (fun u hu => by
    rw [Array.all_eq_true'] at ho
    exact ho u (by simpa using hu)) (by unfold maxLen; omega) (by omega) hB
  exact ⟨v', w', hr, h1, Grown.of h2 fun k _ e => e, h3⟩
theorem wp_appLf {Q : Exit → Act → World → Prop} {o : Oper} {a : Act} {w : World} {K : Act → World → Prop} (s x : Operand)
    (ho : o.op = .call { callee := .builtin .append, args := #[s, x], argTypes := #[29, 29] }) (B : Nat) (v : Value) (n : Nat) (xs : List Value) (y : LV) (g : Nat)
    (hs : a.eval s = v) (hx : a.eval x = .slice (some ⟨g, 0, none⟩) 1 1) (hown : w.ownsRow B 69 5 v n xs) (hc : w.rangeAt g 0 (lvA y).toList) (hy : (lvA y).all (·.oneCell') = true) (hb : n + 1 ≤ 1048576) (hB : B ≤ w.heap.size)
    (h : ∀ v' w', w'.ownsRow B 69 5 v' (n + 1) (xs ++ (lvA y).toList) → (Grown w w' fun k => v.ownBlock = some k) → (v'.ownBlock = v.ownBlock ∨ v'.ownBlock = some w.heap.size) → K (a.put o.dst v') w') : o.wp Try.prog a w K Q := by
  obtain ⟨v', w', hr, h1, h2, h3⟩ := run_appLf w o.type B v n xs y g hown hc hy hb hB
  unfold Oper.wp execOp
  simp only [ho, resolve, invoke, builtin, Sem.run_bind, Sem.run_pure, Result.andThen_ok, List.map_toArray, List.map_cons, List.map_nil, hs, hx, hr]
  exact h v' w' h1 h2 h3
def LIs (L : List CV) (ns : List Nat) (ls : List LV) : Prop := ∀ (j k : Nat) (x : LV), ns[j]? = some k → ls[j]? = some x → x.num = (k : Int) ∧ (∃ c, L[k]? = some c ∧ x.c.k = c.k ∧ x.c.s = c.s ∧ x.c.l = c.l) ∧ x.ps.map hsL = pathL L.length L k
structure FI (B : Nat) (w0 w : World) (d n : Nat) (vl : Value) (L : List CV) (ns : List Nat) (t : Nat) (ls : List LV) : Prop where
  gr : Grown w0 w (fun k => k = d)
  bd : Blk w d 31 #[.int .i64 (n : Int), vl]
  own : w.ownsRow w0.heap.size 69 5 vl t (ls.flatMap fun x => (lvA x).toList)
  len : ls.length = t
  rows : ∀ x ∈ ls, Own w x.c.v x.c.l ∧ w.ownsRow B 25 32 x.pv x.ps.length (flatH x.ps)
  is : LIs L ns ls
theorem fi_new {B : Nat} {w : World} {d n : Nat} {L : List CV} {ns : List Nat} (h : Blk w d 31 #[.int .i64 (n : Int), .slice none 0 0]) : FI B w w d n (.slice none 0 0) L ns 0 [] :=
  ⟨Grown.refl _ _, h, ⟨rfl, .inl ⟨rfl, rfl⟩⟩, rfl, fun x hx => by simp at hx, fun j k x _ hx => by simp at hx⟩
theorem hpa_owns {w : World} {B : Nat} {v : Value} {ps : List Hs} (h : w.ownsRow B 25 32 v ps.length (flatH ps)) : HPa w.heap.size w v ps := by
  rcases h.2 with ⟨rfl, h0⟩ | ⟨g, cap, cur, rfl, _, h3, h4, h5, h6, h7⟩
  · exact .inl ⟨none, 0, rfl, List.length_eq_zero_iff.mp h0⟩
  · refine .inr ⟨g, 0, cap, rfl, h4, (show Typ w g 25 from ⟨cur, _, h3⟩).lt, fun j u hu => ?_⟩
    have hj : j < ps.length * 32 := by have := (List.getElem?_eq_some_iff.mp hu).1; rwa [flatH_len] at this
    have e : cur.toList[j]? = some u := by
      have e2 : (cur.toList.take (ps.length * 32))[j]? = some u := by rw [h7]; exact hu
      rw [List.getElem?_take, if_pos hj] at e2
      exact e2
    rw [Array.getElem?_toList] at e
    rw [Nat.zero_add]
    exact (show Blk w g 25 cur from h3).c j e
theorem flat5 : ∀ (ls : List LV) (i : Nat) (x : LV), ls[i]? = some x → ∀ (j : Nat) (u : Value), (lvA x).toList[j]? = some u → (ls.flatMap fun x => (lvA x).toList)[i * 5 + j]? = some u
  | a :: r, 0, x, hx, j, u, hu => by
    simp at hx
    subst hx
    have hj : j < 5 := (List.getElem?_eq_some_iff.mp hu).1
    rw [List.flatMap_cons, Nat.zero_mul, Nat.zero_add, List.getElem?_append_left (by show j < 5; exact hj)]
    exact hu
  | a :: r, i + 1, x, hx, j, u, hu => by
    rw [List.flatMap_cons, List.getElem?_append_right (by show 5 ≤ _; omega)]
    have h := flat5 r i x (by simpa using hx) j u hu
    rw [show (i + 1) * 5 + j - (lvA a).toList.length = i * 5 + j from by show (i + 1) * 5 + j - 5 = _; omega]
    exact h
theorem lsv_owns {w : World} {B B' : Nat} {v : Value} {ls : List LV} (h : w.ownsRow B 69 5 v ls.length (ls.flatMap fun x => (lvA x).toList)) (hr : ∀ x ∈ ls, Own w x.c.v x.c.l ∧ w.ownsRow B' 25 32 x.pv x.ps.length (flatH x.ps)) : LsV w.heap.size w v ls := by
  rcases h.2 with ⟨rfl, h0⟩ | ⟨g, cap, cur, rfl, _, h3, h4, h5, h6, h7⟩
  · exact .inl ⟨none, 0, rfl, List.length_eq_zero_iff.mp h0⟩
  · refine .inr ⟨g, 0, cap, rfl, h4, (show Typ w g 69 from ⟨cur, _, h3⟩).lt, fun i x hx j u hu => ?_, fun x hx => ⟨(hr x hx).1.row, fun _ => (hr x hx).1.lt, hpa_owns (hr x hx).2⟩⟩
    have hi : i < ls.length := (List.getElem?_eq_some_iff.mp hx).1
    have hj : j < 5 := (List.getElem?_eq_some_iff.mp hu).1
    have e : cur.toList[i * 5 + j]? = some u := by
      have e2 : (cur.toList.take (ls.length * 5))[i * 5 + j]? = some u := by rw [h7]; exact flat5 ls i x hx j u hu
      rw [List.getElem?_take, if_pos (by omega)] at e2
      exact e2
    rw [Array.getElem?_toList] at e
    rw [Nat.zero_add]
    exact (show Blk w g 69 cur from h3).c _ e
def FdP (L : List CV) (kind : Int) (at_ : Nat) (key : ByteArray) (w : World) (e : Ending) (w' : World) : Prop :=
  ∃ (n : Int) (v : Value) (ls : List LV) (er : Int), e = .returned (.tuple #[.agg (wtA n v), .int .i64 er]) ∧ LsV w'.heap.size w' v ls ∧ Below w.heap.size w w' ∧
    (kmay kind = false → n = 0 ∧ ls = [] ∧ er = 40) ∧ (kmay kind = true → wrongI L ≠ 0 → n = 0 ∧ ls = [] ∧ er = wrongI L) ∧
    (kmay kind = true → wrongI L = 0 → n = (L.length : Int) ∧ er = 0 ∧ (L = [] → ls = []) ∧ (L ≠ [] → ls.length = (fnd L.length at_ (fndB L at_ kind key)).length ∧ LIs L (fnd L.length at_ (fndB L at_ kind key)) ls))
set_option maxRecDepth 8000 in
theorem fd_kind (la : Option Addr) (n cap at_ : Nat) (L : List CV) (kind : Int) (key : ByteArray) (w : World) (hkm : kmay kind = false) : Calls Try.prog 12 #[.slice la n cap, .int .i64 kind, .string key] w (FdP L kind at_ key w) := by
  go_enter Try.func12, Try.ntmps12
  refine wp_seq_k fun K1 hK1 => ?_
  refine wp_region_list (WL.out ?_)
  refine WL.new (by kernel_rfl) 31 rfl _ Try.newW ?_
  have R1 := Keep.mk (Blk.new w 31 #[.int .i64 0, .slice none 0 0])
  have b_ := below_new w (.cells #[.int .i64 0, .slice none 0 0] 31)
  change WL _ _ _ _ _ (w.alloc (.cells #[.int .i64 0, .slice none 0 0] 31))
  generalize w.alloc (.cells #[.int .i64 0, .slice none 0 0] 31) = w1 at *
  obtain ⟨r, hr0⟩ : ∃ z, Keep (z = w.heap.size) := ⟨_, ⟨rfl⟩⟩
  rw [← hr0.out] at R1 ⊢
  have B1 : Keep (Below w.heap.size w w1) := ⟨b_⟩
  have gr : Keep (w.heap.size ≤ r) := ⟨by rw [hr0.out]; exact Nat.le_refl _⟩
  clear b_
  simp only [Act.put, List.setIfInBounds_toArray, List.set_cons_zero, List.set_cons_succ]
  refine WL.val (by kernel_rfl) (.int .i64 0) (by go_simp) ?_
  simp only [Act.put, List.setIfInBounds_toArray, List.set_cons_zero, List.set_cons_succ]
  refine WL.nil ?_
  refine hK1 _ _ ?_
  refine wp_seq_k fun K2 hK2 => ?_
  refine wp_seq_k fun K3 hK3 => ?_
  refine wp_region_list (WL.out ?_)
  refine WL.val (by kernel_rfl) (.int .i64 kind) (by go_simp) ?_
  simp only [Act.put, List.setIfInBounds_toArray, List.set_cons_zero, List.set_cons_succ]
  refine WL.callF (by kernel_rfl) 28 _ _ rfl Try.in28 #[.int .i64 kind] (by simp [Act.eval]) ?_
  refine (isk_any kind _).mono ?_
  rintro e w1_z ⟨rfl, hw_⟩
  refine ⟨_, rfl, ?_⟩
  have hw_ := hw_.symm
  subst hw_
  rw [hkm]
  simp only [Act.put, List.setIfInBounds_toArray, List.set_cons_zero, List.set_cons_succ]
  refine WL.val (by kernel_rfl) (.bool true) (by go_simp) ?_
  simp only [Act.put, List.setIfInBounds_toArray, List.set_cons_zero, List.set_cons_succ]
  refine WL.nil ?_
  refine hK3 _ _ ?_
  refine wp_cond_true rfl ?_
  refine wp_seq_k fun K4 hK4 => ?_
  refine wp_region_list (WL.out ?_)
  refine WL.bld (by kernel_rfl) 31 #[] rfl [] (by simp) #[.int .i64 0, .slice none 0 0] bldW ?_
  simp only [Act.put, List.setIfInBounds_toArray, List.set_cons_zero, List.set_cons_succ]
  refine WL.storeR (by kernel_rfl) 31 (.tmp 6) (.tmp 18) rfl r #[.int .i64 0, .slice none 0 0] rfl rfl 31 #[.int .i64 0, .slice none 0 0] R1.out (by rfl) rfl (by simp [Value.oneCell']) ?_
  have R9 := Keep.mk (R1.out.setRow #[.int .i64 0, .slice none 0 0])
  have B9 : Keep (Below w.heap.size w (w1.setRow r #[.int .i64 0, .slice none 0 0])) := ⟨below_setRow B1.out gr.out _⟩
  generalize w1.setRow r #[.int .i64 0, .slice none 0 0] = w9 at *
  simp only [Act.put]
  refine WL.val (by kernel_rfl) (.int .i64 40) (by go_simp) ?_
  simp only [Act.put, List.setIfInBounds_toArray, List.set_cons_zero, List.set_cons_succ]
  refine WL.nil ?_
  refine hK4 _ _ ?_
  refine wp_ret ?_
  try simp only [Exit.inBlock, Exit.then]
  refine bodyPost_ret (v := .tuple #[.agg #[.int .i64 0, .slice none 0 0], .int .i64 40]) (results_cell_row2 Try.results12 _ _ r 31 _ (0, 0) _ _ rfl rfl R9.out Try.underlying31 rfl (by rfl)) rfl ⟨0, .slice none 0 0, [], 40, rfl, .inl ⟨none, 0, rfl, rfl⟩, B9.out, fun _ => ⟨rfl, rfl, rfl⟩, (fun h => by rw [hkm] at h; cases h), (fun h => by rw [hkm] at h; cases h)⟩
set_option maxRecDepth 8000 in
theorem fd_wrong (la : Option Addr) (n cap at_ : Nat) (L : List CV) (kind : Int) (key : ByteArray) (w : World) (er : Int) (hkm : kmay kind = true) (hwi : Keep (wrongI L = er)) (her : ¬ er = 0) (HC : Keep (CsV w.heap.size w (.slice la n cap) L)) (HN : Keep (L.length ≤ 4398046511104)) : Calls Try.prog 12 #[.slice la n cap, .int .i64 kind, .string key] w (FdP L kind at_ key w) := by
  have her' : (er == 0) = false := by simpa using her
  go_enter Try.func12, Try.ntmps12
  refine wp_seq_k fun K1 hK1 => ?_
  refine wp_region_list (WL.out ?_)
  refine WL.new (by kernel_rfl) 31 rfl _ Try.newW ?_
  have R1 := Keep.mk (Blk.new w 31 #[.int .i64 0, .slice none 0 0])
  have b_ := below_new w (.cells #[.int .i64 0, .slice none 0 0] 31)
  change WL _ _ _ _ _ (w.alloc (.cells #[.int .i64 0, .slice none 0 0] 31))
  generalize w.alloc (.cells #[.int .i64 0, .slice none 0 0] 31) = w1 at *
  obtain ⟨r, hr0⟩ : ∃ z, Keep (z = w.heap.size) := ⟨_, ⟨rfl⟩⟩
  rw [← hr0.out] at R1 ⊢
  have B1 : Keep (Below w.heap.size w w1) := ⟨b_⟩
  have gr : Keep (w.heap.size ≤ r) := ⟨by rw [hr0.out]; exact Nat.le_refl _⟩
  clear b_
  simp only [Act.put, List.setIfInBounds_toArray, List.set_cons_zero, List.set_cons_succ]
  refine WL.val (by kernel_rfl) (.int .i64 0) (by go_simp) ?_
  simp only [Act.put, List.setIfInBounds_toArray, List.set_cons_zero, List.set_cons_succ]
  refine WL.nil ?_
  refine hK1 _ _ ?_
  refine wp_seq_k fun K2 hK2 => ?_
  refine wp_seq_k fun K3 hK3 => ?_
  refine wp_region_list (WL.out ?_)
  refine WL.val (by kernel_rfl) (.int .i64 kind) (by go_simp) ?_
  simp only [Act.put, List.setIfInBounds_toArray, List.set_cons_zero, List.set_cons_succ]
  refine WL.callF (by kernel_rfl) 28 _ _ rfl Try.in28 #[.int .i64 kind] (by simp [Act.eval]) ?_
  refine (isk_any kind _).mono ?_
  rintro e w1_z ⟨rfl, hw_⟩
  refine ⟨_, rfl, ?_⟩
  have hw_ := hw_.symm
  subst hw_
  rw [hkm]
  simp only [Act.put, List.setIfInBounds_toArray, List.set_cons_zero, List.set_cons_succ]
  refine WL.val (by kernel_rfl) (.bool false) (by go_simp) ?_
  simp only [Act.put, List.setIfInBounds_toArray, List.set_cons_zero, List.set_cons_succ]
  refine WL.nil ?_
  refine hK3 _ _ ?_
  refine wp_cond_false rfl ?_
  refine wp_skip ?_
  refine hK2 _ _ ?_
  refine wp_seq_k fun K4 hK4 => ?_
  refine wp_seq_k fun K5 hK5 => ?_
  refine wp_region_list (WL.out ?_)
  refine WL.val (by kernel_rfl) (.slice la n cap) (by go_simp) ?_
  simp only [Act.put, List.setIfInBounds_toArray, List.set_cons_zero, List.set_cons_succ]
  refine WL.callF (by kernel_rfl) 24 _ _ rfl Try.in24 #[.slice la n cap] (by simp [Act.eval]) ?_
  refine (maybe_any w.heap.size _ L w1 (HC.out.below B1.out) B1.out.size HN.out).mono ?_
  rintro e w2 ⟨rfl, k1⟩
  refine ⟨_, rfl, ?_⟩
  rw [hwi.out]
  have R2 := Keep.mk (R1.out.below k1 R1.out.lt)
  have B2 : Keep (Below w.heap.size w w2) := ⟨B1.out.trans (k1.mono B1.out.size)⟩
  clear k1
  simp only [Act.put, List.setIfInBounds_toArray, List.set_cons_zero, List.set_cons_succ]
  refine WL.val (by kernel_rfl) (.int .i64 er) (by go_simp) ?_
  simp only [Act.put, List.setIfInBounds_toArray, List.set_cons_zero, List.set_cons_succ]
  refine WL.nil ?_
  refine hK5 _ _ ?_
  refine wp_seq_k fun K6 hK6 => ?_
  refine wp_region_list (WL.out ?_)
  refine WL.val (by kernel_rfl) (.int .i64 er) (by go_simp) ?_
  simp only [Act.put, List.setIfInBounds_toArray, List.set_cons_zero, List.set_cons_succ]
  refine WL.val (by kernel_rfl) (.bool true) (by go_simp) ?_
  simp only [Act.put, List.setIfInBounds_toArray, List.set_cons_zero, List.set_cons_succ]
  refine WL.nil ?_
  refine hK6 _ _ ?_
  refine wp_cond_true rfl ?_
  refine wp_seq_k fun K7 hK7 => ?_
  refine wp_region_list (WL.out ?_)
  refine WL.bld (by kernel_rfl) 31 #[] rfl [] (by simp) #[.int .i64 0, .slice none 0 0] bldW ?_
  simp only [Act.put, List.setIfInBounds_toArray, List.set_cons_zero, List.set_cons_succ]
  refine WL.val (by kernel_rfl) (.int .i64 er) (by go_simp) ?_
  simp only [Act.put, List.setIfInBounds_toArray, List.set_cons_zero, List.set_cons_succ]
  refine WL.storeR (by kernel_rfl) 31 (.tmp 6) (.tmp 23) rfl r #[.int .i64 0, .slice none 0 0] rfl rfl 31 #[.int .i64 0, .slice none 0 0] R2.out (by rfl) rfl (by simp [Value.oneCell']) ?_
  have R9 := Keep.mk (R2.out.setRow #[.int .i64 0, .slice none 0 0])
  have B9 : Keep (Below w.heap.size w (w2.setRow r #[.int .i64 0, .slice none 0 0])) := ⟨below_setRow B2.out gr.out _⟩
  generalize w2.setRow r #[.int .i64 0, .slice none 0 0] = w9 at *
  simp only [Act.put]
  refine WL.val (by kernel_rfl) (.int .i64 er) (by go_simp) ?_
  simp only [Act.put, List.setIfInBounds_toArray, List.set_cons_zero, List.set_cons_succ]
  refine WL.nil ?_
  refine hK7 _ _ ?_
  refine wp_ret ?_
  try simp only [Exit.inBlock, Exit.then]
  refine bodyPost_ret (v := .tuple #[.agg #[.int .i64 0, .slice none 0 0], .int .i64 er]) (results_cell_row2 Try.results12 _ _ r 31 _ (0, 0) _ _ rfl rfl R9.out Try.underlying31 rfl (by rfl)) rfl ⟨0, .slice none 0 0, [], er, rfl, .inl ⟨none, 0, rfl, rfl⟩, B9.out, (fun h => by rw [hkm] at h; cases h), (fun _ _ => ⟨rfl, rfl, hwi.out.symm⟩), (fun _ h => absurd (hwi.out.symm.trans h) her)⟩
set_option maxRecDepth 8000 in
theorem fd_none (la : Option Addr) (cap at_ : Nat) (kind : Int) (key : ByteArray) (w : World) (hkm : kmay kind = true) (HC : Keep (CsV w.heap.size w (.slice la 0 cap) [])) : Calls Try.prog 12 #[.slice la 0 cap, .int .i64 kind, .string key] w (FdP [] kind at_ key w) := by
  go_enter Try.func12, Try.ntmps12
  refine wp_seq_k fun K1 hK1 => ?_
  refine wp_region_list (WL.out ?_)
  refine WL.new (by kernel_rfl) 31 rfl _ Try.newW ?_
  have R1 := Keep.mk (Blk.new w 31 #[.int .i64 0, .slice none 0 0])
  have b_ := below_new w (.cells #[.int .i64 0, .slice none 0 0] 31)
  change WL _ _ _ _ _ (w.alloc (.cells #[.int .i64 0, .slice none 0 0] 31))
  generalize w.alloc (.cells #[.int .i64 0, .slice none 0 0] 31) = w1 at *
  obtain ⟨r, hr0⟩ : ∃ z, Keep (z = w.heap.size) := ⟨_, ⟨rfl⟩⟩
  rw [← hr0.out] at R1 ⊢
  have B1 : Keep (Below w.heap.size w w1) := ⟨b_⟩
  have gr : Keep (w.heap.size ≤ r) := ⟨by rw [hr0.out]; exact Nat.le_refl _⟩
  clear b_
  simp only [Act.put, List.setIfInBounds_toArray, List.set_cons_zero, List.set_cons_succ]
  refine WL.val (by kernel_rfl) (.int .i64 0) (by go_simp) ?_
  simp only [Act.put, List.setIfInBounds_toArray, List.set_cons_zero, List.set_cons_succ]
  refine WL.nil ?_
  refine hK1 _ _ ?_
  refine wp_seq_k fun K2 hK2 => ?_
  refine wp_seq_k fun K3 hK3 => ?_
  refine wp_region_list (WL.out ?_)
  refine WL.val (by kernel_rfl) (.int .i64 kind) (by go_simp) ?_
  simp only [Act.put, List.setIfInBounds_toArray, List.set_cons_zero, List.set_cons_succ]
  refine WL.callF (by kernel_rfl) 28 _ _ rfl Try.in28 #[.int .i64 kind] (by simp [Act.eval]) ?_
  refine (isk_any kind _).mono ?_
  rintro e w1_z ⟨rfl, hw_⟩
  refine ⟨_, rfl, ?_⟩
  have hw_ := hw_.symm
  subst hw_
  rw [hkm]
  simp only [Act.put, List.setIfInBounds_toArray, List.set_cons_zero, List.set_cons_succ]
  refine WL.val (by kernel_rfl) (.bool false) (by go_simp) ?_
  simp only [Act.put, List.setIfInBounds_toArray, List.set_cons_zero, List.set_cons_succ]
  refine WL.nil ?_
  refine hK3 _ _ ?_
  refine wp_cond_false rfl ?_
  refine wp_skip ?_
  refine hK2 _ _ ?_
  refine wp_seq_k fun K4 hK4 => ?_
  refine wp_seq_k fun K5 hK5 => ?_
  refine wp_region_list (WL.out ?_)
  refine WL.val (by kernel_rfl) (.slice la 0 cap) (by go_simp) ?_
  simp only [Act.put, List.setIfInBounds_toArray, List.set_cons_zero, List.set_cons_succ]
  refine WL.callF (by kernel_rfl) 24 _ _ rfl Try.in24 #[.slice la 0 cap] (by simp [Act.eval]) ?_
  refine (maybe_any w.heap.size _ [] w1 (HC.out.below B1.out) B1.out.size (by simp)).mono ?_
  rintro e w2 ⟨rfl, k1⟩
  refine ⟨_, rfl, ?_⟩
  change WL _ _ _ _ (Act.put _ _ (.int .i64 0)) w2
  have R2 := Keep.mk (R1.out.below k1 R1.out.lt)
  have B2 : Keep (Below w.heap.size w w2) := ⟨B1.out.trans (k1.mono B1.out.size)⟩
  clear k1
  simp only [Act.put, List.setIfInBounds_toArray, List.set_cons_zero, List.set_cons_succ]
  refine WL.val (by kernel_rfl) (.int .i64 0) (by go_simp) ?_
  simp only [Act.put, List.setIfInBounds_toArray, List.set_cons_zero, List.set_cons_succ]
  refine WL.nil ?_
  refine hK5 _ _ ?_
  refine wp_seq_k fun K6 hK6 => ?_
  refine wp_region_list (WL.out ?_)
  refine WL.val (by kernel_rfl) (.int .i64 0) (by go_simp) ?_
  simp only [Act.put, List.setIfInBounds_toArray, List.set_cons_zero, List.set_cons_succ]
  refine WL.val (by kernel_rfl) (.bool false) (by go_simp) ?_
  simp only [Act.put, List.setIfInBounds_toArray, List.set_cons_zero, List.set_cons_succ]
  refine WL.nil ?_
  refine hK6 _ _ ?_
  refine wp_cond_false rfl ?_
  refine wp_skip ?_
  refine hK4 _ _ ?_
  refine wp_seq_k fun K7 hK7 => ?_
  refine wp_region_list (WL.out ?_)
  refine WL.val (by kernel_rfl) (.slice la 0 cap) (by go_simp) ?_
  simp only [Act.put, List.setIfInBounds_toArray, List.set_cons_zero, List.set_cons_succ]
  refine WL.val (by kernel_rfl) (.int .i64 0) (by go_simp) ?_
  simp only [Act.put, List.setIfInBounds_toArray, List.set_cons_zero, List.set_cons_succ]
  refine WL.bld (by kernel_rfl) 31 #[(0, .tmp 26)] rfl [(0, .int .i64 0)] (by simp [Act.eval]) #[.int .i64 0, .slice none 0 0] (bldW1 0) ?_
  simp only [Act.put, List.setIfInBounds_toArray, List.set_cons_zero, List.set_cons_succ]
  refine WL.new (by kernel_rfl) 31 rfl _ Try.newW ?_
  have D3 := Keep.mk (Blk.new w2 31 #[.int .i64 0, .slice none 0 0])
  have b_ := below_new w2 (.cells #[.int .i64 0, .slice none 0 0] 31)
  change WL _ _ _ _ _ (w2.alloc (.cells #[.int .i64 0, .slice none 0 0] 31))
  generalize w2.alloc (.cells #[.int .i64 0, .slice none 0 0] 31) = w3 at *
  obtain ⟨d, hd0⟩ : ∃ z, Keep (z = w2.heap.size) := ⟨_, ⟨rfl⟩⟩
  rw [← hd0.out] at D3 ⊢
  have R3 := Keep.mk (R2.out.below b_ R2.out.lt)
  have B3 : Keep (Below w.heap.size w w3) := ⟨B2.out.trans (b_.mono B2.out.size)⟩
  have gd : Keep (w.heap.size ≤ d) := ⟨by rw [hd0.out]; exact B2.out.size⟩
  clear b_
  have hrd : Keep (r ≠ d) := ⟨by have := R2.out.lt; have := hd0.out; omega⟩
  simp only [Act.put, List.setIfInBounds_toArray, List.set_cons_zero, List.set_cons_succ]
  refine WL.storeR (by kernel_rfl) 31 (.tmp 9) (.tmp 27) rfl d #[.int .i64 0, .slice none 0 0] rfl rfl 31 #[.int .i64 0, .slice none 0 0] D3.out (by rfl) rfl (by simp [Value.oneCell']) ?_
  have D4 := Keep.mk (D3.out.setRow #[.int .i64 0, .slice none 0 0])
  have B4 : Keep (Below w.heap.size w (w3.setRow d #[.int .i64 0, .slice none 0 0])) := ⟨below_setRow B3.out gd.out _⟩
  have R4 := Keep.mk (R3.out.setRow_ne hrd.out #[.int .i64 0, .slice none 0 0])
  generalize w3.setRow d #[.int .i64 0, .slice none 0 0] = w4 at *
  simp only [Act.put]
  refine WL.nil ?_
  refine hK7 _ _ ?_
  refine wp_seq_k fun K8 hK8 => ?_
  refine wp_seq_k fun K9 hK9 => ?_
  refine wp_region_list (WL.out ?_)
  refine WL.val (by kernel_rfl) (.slice la 0 cap) (by go_simp) ?_
  simp only [Act.put, List.setIfInBounds_toArray, List.set_cons_zero, List.set_cons_succ]
  refine WL.val (by kernel_rfl) (.int .i64 0) (by go_simp) ?_
  simp only [Act.put, List.setIfInBounds_toArray, List.set_cons_zero, List.set_cons_succ]
  refine WL.val (by kernel_rfl) (.bool true) (by go_simp) ?_
  simp only [Act.put, List.setIfInBounds_toArray, List.set_cons_zero, List.set_cons_succ]
  refine WL.nil ?_
  refine hK9 _ _ ?_
  refine wp_cond_true rfl ?_
  refine wp_seq_k fun K10 hK10 => ?_
  refine wp_region_list (WL.out ?_)
  refine WL.row (by kernel_rfl) 31 (.tmp 9) rfl d rfl 31 #[.int .i64 0, .slice none 0 0] _ D4.out Try.underlying31 rfl (by rfl) ?_
  simp only [Act.put, List.setIfInBounds_toArray, List.set_cons_zero, List.set_cons_succ]
  refine WL.storeR (by kernel_rfl) 31 (.tmp 6) (.tmp 31) rfl r #[.int .i64 0, .slice none 0 0] rfl rfl 31 #[.int .i64 0, .slice none 0 0] R4.out (by rfl) rfl (by simp [Value.oneCell']) ?_
  have R9 := Keep.mk (R4.out.setRow #[.int .i64 0, .slice none 0 0])
  have B9 : Keep (Below w.heap.size w (w4.setRow r #[.int .i64 0, .slice none 0 0])) := ⟨below_setRow B4.out gr.out _⟩
  generalize w4.setRow r #[.int .i64 0, .slice none 0 0] = w9 at *
  simp only [Act.put]
  refine WL.val (by kernel_rfl) (.int .i64 0) (by go_simp) ?_
  simp only [Act.put, List.setIfInBounds_toArray, List.set_cons_zero, List.set_cons_succ]
  refine WL.nil ?_
  refine hK10 _ _ ?_
  refine wp_ret ?_
  try simp only [Exit.inBlock, Exit.then]
  refine bodyPost_ret (v := .tuple #[.agg #[.int .i64 0, .slice none 0 0], .int .i64 0]) (results_cell_row2 Try.results12 _ _ r 31 _ (0, 0) _ _ rfl rfl R9.out Try.underlying31 rfl (by rfl)) rfl ⟨0, .slice none 0 0, [], 0, rfl, .inl ⟨none, 0, rfl, rfl⟩, B9.out, (fun h => by rw [hkm] at h; cases h), (fun _ h => absurd rfl h), (fun _ _ => ⟨rfl, rfl, fun _ => rfl, fun h => absurd rfl h⟩)⟩

set_option maxRecDepth 8000 in
set_option maxHeartbeats 1000000 in
theorem fd_some (b off n cap at_ m : Nat) (L : List CV) (ns : List Nat) (kind : Int) (key : ByteArray) (hh : Array Value) (w : World) (hkm : kmay kind = true) (hwi : Keep (wrongI L = 0)) (hn : Keep (L.length = n)) (hn1 : 1 ≤ n) (HN : Keep (n ≤ 3600000000000)) (HC : Keep (CsAt w.heap.size w b off L)) (HCv : Keep (CsV w.heap.size w (.slice (some ⟨b, off, none⟩) n cap) L)) (HF : Keep (Fit L)) (hhe : Keep (hh = (bytesA 32 (hof (treeL n L)))))
    (HA : Keep (at_ ≤ n)) (HAt : Keep (∀ (i : Nat) (c : CV), L[i]? = some c → (stI c.k c.s kind key < 0 ↔ i < at_))) (hns : Keep (fnd n at_ (fndB L at_ kind key) = ns)) (hm : Keep (ns.length = m)) (hm1 : 1 ≤ m) (HM : Keep (m ≤ 2)) (HNn : Keep (∀ k ∈ ns, k < n)) (HSz : Keep (∀ c ∈ L, c.l.length ≤ 140737488355328)) : Calls Try.prog 12 #[.slice (some ⟨b, off, none⟩) n cap, .int .i64 kind, .string key] w (FdP L kind at_ key w) := by
  have hn0 : ((n : Int) == 0) = false := by simp; omega
  have hn0' : ¬ n = 0 := by omega
  go_enter Try.func12, Try.ntmps12
  refine wp_seq_k fun K1 hK1 => ?_
  refine wp_region_list (WL.out ?_)
  refine WL.new (by kernel_rfl) 31 rfl _ Try.newW ?_
  have R1 := Keep.mk (Blk.new w 31 #[.int .i64 0, .slice none 0 0])
  have b_ := below_new w (.cells #[.int .i64 0, .slice none 0 0] 31)
  change WL _ _ _ _ _ (w.alloc (.cells #[.int .i64 0, .slice none 0 0] 31))
  generalize w.alloc (.cells #[.int .i64 0, .slice none 0 0] 31) = w1 at *
  obtain ⟨r, hr0⟩ : ∃ z, Keep (z = w.heap.size) := ⟨_, ⟨rfl⟩⟩
  rw [← hr0.out] at R1 ⊢
  have B1 : Keep (Below w.heap.size w w1) := ⟨b_⟩
  have gr : Keep (w.heap.size ≤ r) := ⟨by rw [hr0.out]; exact Nat.le_refl _⟩
  clear b_
  simp only [Act.put, List.setIfInBounds_toArray, List.set_cons_zero, List.set_cons_succ]
  refine WL.val (by kernel_rfl) (.int .i64 0) (by go_simp) ?_
  simp only [Act.put, List.setIfInBounds_toArray, List.set_cons_zero, List.set_cons_succ]
  refine WL.nil ?_
  refine hK1 _ _ ?_
  refine wp_seq_k fun K2 hK2 => ?_
  refine wp_seq_k fun K3 hK3 => ?_
  refine wp_region_list (WL.out ?_)
  refine WL.val (by kernel_rfl) (.int .i64 kind) (by go_simp) ?_
  simp only [Act.put, List.setIfInBounds_toArray, List.set_cons_zero, List.set_cons_succ]
  refine WL.callF (by kernel_rfl) 28 _ _ rfl Try.in28 #[.int .i64 kind] (by simp [Act.eval]) ?_
  refine (isk_any kind _).mono ?_
  rintro e w1_z ⟨rfl, hw_⟩
  refine ⟨_, rfl, ?_⟩
  have hw_ := hw_.symm
  subst hw_
  rw [hkm]
  simp only [Act.put, List.setIfInBounds_toArray, List.set_cons_zero, List.set_cons_succ]
  refine WL.val (by kernel_rfl) (.bool false) (by go_simp) ?_
  simp only [Act.put, List.setIfInBounds_toArray, List.set_cons_zero, List.set_cons_succ]
  refine WL.nil ?_
  refine hK3 _ _ ?_
  refine wp_cond_false rfl ?_
  refine wp_skip ?_
  refine hK2 _ _ ?_
  refine wp_seq_k fun K4 hK4 => ?_
  refine wp_seq_k fun K5 hK5 => ?_
  refine wp_region_list (WL.out ?_)
  refine WL.val (by kernel_rfl) (.slice (some ⟨b, off, none⟩) n cap) (by go_simp) ?_
  simp only [Act.put, List.setIfInBounds_toArray, List.set_cons_zero, List.set_cons_succ]
  refine WL.callF (by kernel_rfl) 24 _ _ rfl Try.in24 #[.slice (some ⟨b, off, none⟩) n cap] (by simp [Act.eval]) ?_
  refine (maybe_any w.heap.size _ L w1 (HCv.out.below B1.out) B1.out.size (by rw [hn.out]; have := HN.out; omega)).mono ?_
  rintro e w2 ⟨rfl, k1⟩
  refine ⟨_, rfl, ?_⟩
  rw [hwi.out]
  have R2 := Keep.mk (R1.out.below k1 R1.out.lt)
  have B2 : Keep (Below w.heap.size w w2) := ⟨B1.out.trans (k1.mono B1.out.size)⟩
  clear k1
  simp only [Act.put, List.setIfInBounds_toArray, List.set_cons_zero, List.set_cons_succ]
  refine WL.val (by kernel_rfl) (.int .i64 0) (by go_simp) ?_
  simp only [Act.put, List.setIfInBounds_toArray, List.set_cons_zero, List.set_cons_succ]
  refine WL.nil ?_
  refine hK5 _ _ ?_
  refine wp_seq_k fun K6 hK6 => ?_
  refine wp_region_list (WL.out ?_)
  refine WL.val (by kernel_rfl) (.int .i64 0) (by go_simp) ?_
  simp only [Act.put, List.setIfInBounds_toArray, List.set_cons_zero, List.set_cons_succ]
  refine WL.val (by kernel_rfl) (.bool false) (by go_simp) ?_
  simp only [Act.put, List.setIfInBounds_toArray, List.set_cons_zero, List.set_cons_succ]
  refine WL.nil ?_
  refine hK6 _ _ ?_
  refine wp_cond_false rfl ?_
  refine wp_skip ?_
  refine hK4 _ _ ?_
  refine wp_seq_k fun K7 hK7 => ?_
  refine wp_region_list (WL.out ?_)
  refine WL.val (by kernel_rfl) (.slice (some ⟨b, off, none⟩) n cap) (by go_simp) ?_
  simp only [Act.put, List.setIfInBounds_toArray, List.set_cons_zero, List.set_cons_succ]
  refine WL.val (by kernel_rfl) (.int .i64 (n : Int)) (by go_simp) ?_
  simp only [Act.put, List.setIfInBounds_toArray, List.set_cons_zero, List.set_cons_succ]
  refine WL.bld (by kernel_rfl) 31 #[(0, .tmp 26)] rfl [(0, .int .i64 (n : Int))] (by simp [Act.eval]) #[.int .i64 (n : Int), .slice none 0 0] (bldW1 (n : Int)) ?_
  simp only [Act.put, List.setIfInBounds_toArray, List.set_cons_zero, List.set_cons_succ]
  refine WL.new (by kernel_rfl) 31 rfl _ Try.newW ?_
  have D3 := Keep.mk (Blk.new w2 31 #[.int .i64 0, .slice none 0 0])
  have b_ := below_new w2 (.cells #[.int .i64 0, .slice none 0 0] 31)
  change WL _ _ _ _ _ (w2.alloc (.cells #[.int .i64 0, .slice none 0 0] 31))
  generalize w2.alloc (.cells #[.int .i64 0, .slice none 0 0] 31) = w3 at *
  obtain ⟨d, hd0⟩ : ∃ z, Keep (z = w2.heap.size) := ⟨_, ⟨rfl⟩⟩
  rw [← hd0.out] at D3 ⊢
  have R3 := Keep.mk (R2.out.below b_ R2.out.lt)
  have B3 : Keep (Below w.heap.size w w3) := ⟨B2.out.trans (b_.mono B2.out.size)⟩
  have gd : Keep (w.heap.size ≤ d) := ⟨by rw [hd0.out]; exact B2.out.size⟩
  clear b_
  have hrd : Keep (r ≠ d) := ⟨by have := R2.out.lt; have := hd0.out; omega⟩
  simp only [Act.put, List.setIfInBounds_toArray, List.set_cons_zero, List.set_cons_succ]
  refine WL.storeR (by kernel_rfl) 31 (.tmp 9) (.tmp 27) rfl d #[.int .i64 (n : Int), .slice none 0 0] rfl rfl 31 #[.int .i64 0, .slice none 0 0] D3.out (by rfl) rfl (by simp [Value.oneCell']) ?_
  have D4 := Keep.mk (D3.out.setRow #[.int .i64 (n : Int), .slice none 0 0])
  have B4 : Keep (Below w.heap.size w (w3.setRow d #[.int .i64 (n : Int), .slice none 0 0])) := ⟨below_setRow B3.out gd.out _⟩
  have R4 := Keep.mk (R3.out.setRow_ne hrd.out #[.int .i64 (n : Int), .slice none 0 0])
  generalize w3.setRow d #[.int .i64 (n : Int), .slice none 0 0] = w4 at *
  simp only [Act.put]
  refine WL.nil ?_
  refine hK7 _ _ ?_
  refine wp_seq_k fun K8 hK8 => ?_
  refine wp_seq_k fun K9 hK9 => ?_
  refine wp_region_list (WL.out ?_)
  refine WL.val (by kernel_rfl) (.slice (some ⟨b, off, none⟩) n cap) (by go_simp) ?_
  simp only [Act.put, List.setIfInBounds_toArray, List.set_cons_zero, List.set_cons_succ]
  refine WL.val (by kernel_rfl) (.int .i64 (n : Int)) (by go_simp) ?_
  simp only [Act.put, List.setIfInBounds_toArray, List.set_cons_zero, List.set_cons_succ]
  refine WL.val (by kernel_rfl) (.bool false) (by go_simp) ?_
  simp only [Act.put, List.setIfInBounds_toArray, List.set_cons_zero, List.set_cons_succ]
  refine WL.nil ?_
  refine hK9 _ _ ?_
  refine wp_cond_false rfl ?_
  refine wp_skip ?_
  refine hK8 _ _ ?_
  refine wp_seq_k fun K10 hK10 => ?_
  refine wp_region_list (WL.out ?_)
  refine WL.val (by kernel_rfl) (.slice (some ⟨b, off, none⟩) n cap) (by go_simp) ?_
  simp only [Act.put, List.setIfInBounds_toArray, List.set_cons_zero, List.set_cons_succ]
  refine WL.val (by kernel_rfl) (.int .i64 kind) (by go_simp) ?_
  simp only [Act.put, List.setIfInBounds_toArray, List.set_cons_zero, List.set_cons_succ]
  refine WL.val (by kernel_rfl) (.string key) (by go_simp) ?_
  simp only [Act.put, List.setIfInBounds_toArray, List.set_cons_zero, List.set_cons_succ]
  refine WL.callF (by kernel_rfl) 29 _ _ rfl Try.in29 #[.slice (some ⟨b, off, none⟩) n cap, .int .i64 kind, .string key] (by simp [Act.eval]) ?_
  refine (ar_any (some ⟨b, off, none⟩) n cap at_ L kind key w4 hn.out hn1 HN.out (fun _ => ⟨b, off, rfl, (HC.out.below B4.out).mono B4.out.size⟩) HA.out HAt.out).mono ?_
  rintro e w5 ⟨vn, rfl, k0, k1⟩
  refine ⟨_, rfl, ?_⟩
  rw [hns.out] at k0
  have D5 := Keep.mk (D4.out.below k1 D4.out.lt)
  have R5 := Keep.mk (R4.out.below k1 R4.out.lt)
  have B5 : Keep (Below w.heap.size w w5) := ⟨B4.out.trans (k1.mono B4.out.size)⟩
  have NS5 := Keep.mk k0
  obtain ⟨gn, cn, hvn⟩ : ∃ g c, vn = .slice (some ⟨g, 0, none⟩) m c := by
    rcases k0 with ⟨a, c, _, h⟩ | ⟨g, c, h, _⟩
    · rw [h] at hm; have := hm.out; simp at this; omega
    · exact ⟨g, c, by rw [h, hm.out]⟩
  subst hvn
  clear k0 k1
  simp only [Act.put, List.setIfInBounds_toArray, List.set_cons_zero, List.set_cons_succ]
  refine WL.val (by kernel_rfl) (.slice (some ⟨gn, 0, none⟩) m cn) (by go_simp) ?_
  simp only [Act.put, List.setIfInBounds_toArray, List.set_cons_zero, List.set_cons_succ]
  refine WL.nil ?_
  refine hK10 _ _ ?_
  refine wp_seq_k fun K11 hK11 => ?_
  refine wp_region_list (WL.out ?_)
  refine WL.val (by kernel_rfl) (.slice (some ⟨b, off, none⟩) n cap) (by go_simp) ?_
  simp only [Act.put, List.setIfInBounds_toArray, List.set_cons_zero, List.set_cons_succ]
  refine WL.val (by kernel_rfl) (.slice (some ⟨gn, 0, none⟩) m cn) (by go_simp) ?_
  simp only [Act.put, List.setIfInBounds_toArray, List.set_cons_zero, List.set_cons_succ]
  refine WL.callF (by kernel_rfl) 26 _ _ rfl Try.in26 #[.slice (some ⟨b, off, none⟩) n cap, .slice (some ⟨gn, 0, none⟩) m cn] (by simp [Act.eval]) ?_
  refine (ptree_any b off n cap L ns _ w5 hn.out hn1 HN.out (by rw [hm.out]; have := HM.out; omega) HF.out ((HC.out.below B5.out).mono B5.out.size) NS5.out).mono ?_
  rintro e w6 ⟨gp, Ps, rfl, k0, k1⟩
  refine ⟨_, rfl, ?_⟩
  rw [hm.out, ← hhe.out]
  have T6 := Keep.mk k0
  have D6 := Keep.mk (D5.out.below k1 D5.out.lt)
  have R6 := Keep.mk (R5.out.below k1 R5.out.lt)
  have NS6 := Keep.mk (NS5.out.below k1)
  have hgp5 : Keep (w5.heap.size ≤ gp) := ⟨k0.ge⟩
  have B6 : Keep (Below w.heap.size w w6) := ⟨B5.out.trans (k1.mono B5.out.size)⟩
  clear k0 k1 NS5
  simp only [Act.put, List.setIfInBounds_toArray, List.set_cons_zero, List.set_cons_succ]
  refine WL.val (by kernel_rfl) (.tuple #[.agg hh, .slice (some ⟨gp, 0, none⟩) m m]) (by go_simp) ?_
  simp only [Act.put, List.setIfInBounds_toArray, List.set_cons_zero, List.set_cons_succ]
  refine WL.val (by kernel_rfl) (.agg hh) (by go_simp) ?_
  simp only [Act.put, List.setIfInBounds_toArray, List.set_cons_zero, List.set_cons_succ]
  refine WL.val (by kernel_rfl) (.slice (some ⟨gp, 0, none⟩) m m) (by go_simp) ?_
  simp only [Act.put, List.setIfInBounds_toArray, List.set_cons_zero, List.set_cons_succ]
  refine WL.new (by kernel_rfl) 25 rfl _ Try.new25 ?_
  have Y7 := Keep.mk (Blk.new w6 25 (bytesA 32 fun _ => 0))
  have b_ := below_new w6 (.cells (bytesA 32 fun _ => 0) 25)
  change WL _ _ _ _ _ (w6.alloc (.cells (bytesA 32 fun _ => 0) 25))
  generalize w6.alloc (.cells (bytesA 32 fun _ => 0) 25) = w7 at *
  obtain ⟨y, hy0⟩ : ∃ z, Keep (z = w6.heap.size) := ⟨_, ⟨rfl⟩⟩
  rw [← hy0.out] at Y7 ⊢
  have R7 := Keep.mk (R6.out.below b_ R6.out.lt)
  have D7 := Keep.mk (D6.out.below b_ D6.out.lt)
  have B7 : Keep (Below w.heap.size w w7) := ⟨B6.out.trans (b_.mono B6.out.size)⟩
  have gy : Keep (w.heap.size ≤ y) := ⟨by rw [hy0.out]; exact B6.out.size⟩
  have bb_ := b_
  clear b_
  have n7 : Keep (Below w6.heap.size w6 w7) := ⟨bb_⟩
  clear bb_
  simp only [Act.put, List.setIfInBounds_toArray, List.set_cons_zero, List.set_cons_succ]
  refine WL.storeR (by kernel_rfl) 25 (.tmp 11) (.tmp 40) rfl y hh rfl rfl 25 (bytesA 32 fun _ => 0) Y7.out (by rw [hhe.out]; exact Try.size25B _) (by rw [hhe.out]; exact bytesA_sizes _ _ _) (by rw [hhe.out]; exact bytesA_one _ _) ?_
  have b8 : Keep (Below w6.heap.size w6 (w7.setRow y hh)) := ⟨below_setRow n7.out (by rw [hy0.out]; exact Nat.le_refl _) _⟩
  have B8 : Keep (Below w.heap.size w (w7.setRow y hh)) := ⟨below_setRow B7.out gy.out _⟩
  generalize w7.setRow y hh = w8 at *
  clear Y7 n7 R7 D7
  have R8 := Keep.mk (R6.out.below b8.out R6.out.lt)
  have D8 := Keep.mk (D6.out.below b8.out D6.out.lt)
  have NS8 := Keep.mk (NS6.out.below b8.out)
  have T8 : Keep (Blk w8 gp 67 (Ps.map (·.v)).toArray ∧ ∀ P ∈ Ps, w8.ownsRow w5.heap.size 25 32 P.v P.ps.length (flatH P.ps)) := ⟨T6.out.bg.below b8.out T6.out.bg.lt, fun P hP => owns_below (T6.out.own P hP) b8.out⟩
  have hFI0 := fi_new (B := w5.heap.size) (L := L) (ns := ns) D8.out
  clear R6 D6 NS6 b8
  simp only [Act.put]
  refine WL.val (by kernel_rfl) (.slice (some ⟨gp, 0, none⟩) m m) (by go_simp) ?_
  simp only [Act.put, List.setIfInBounds_toArray, List.set_cons_zero, List.set_cons_succ]
  refine WL.nil ?_
  refine hK11 _ _ ?_
  refine wp_seq_k fun K12 hK12 => ?_
  refine wp_seq_k fun K13 hK13 => ?_
  refine wp_region_list (WL.out ?_)
  refine WL.val (by kernel_rfl) (.slice (some ⟨gn, 0, none⟩) m cn) (by go_simp) ?_
  simp only [Act.put, List.setIfInBounds_toArray, List.set_cons_zero, List.set_cons_succ]
  refine WL.val (by kernel_rfl) (.int .i64 (m : Int)) (by go_simp) ?_
  simp only [Act.put, List.setIfInBounds_toArray, List.set_cons_zero, List.set_cons_succ]
  refine WL.val (by kernel_rfl) (.int .i64 0) (by go_simp) ?_
  simp only [Act.put, List.setIfInBounds_toArray, List.set_cons_zero, List.set_cons_succ]
  refine WL.nil ?_
  refine hK13 _ _ ?_
  refine wp_block ?_
  refine wp_loop (fun ac wr => ∃ (t : Nat) (f : Nat → Value) (vl : Value), ac = { tmps := #[.slice (some ⟨b, off, none⟩) n cap, .int .i64 kind, .string key, undef, undef, undef, .pointer (some ⟨r, 0, none⟩), .int .i64 0, .int .i64 0, .pointer (some ⟨d, 0, none⟩), .slice (some ⟨gn, 0, none⟩) m cn, .pointer (some ⟨y, 0, none⟩), .slice (some ⟨gp, 0, none⟩) m m, f 13, f 14, .int .i64 kind, .bool true, .bool false, undef, .slice (some ⟨b, off, none⟩) n cap, .int .i64 0, .int .i64 0, .bool false, undef, undef, .slice (some ⟨b, off, none⟩) n cap, .int .i64 (n : Int), .agg #[.int .i64 (n : Int), .slice none 0 0], .slice (some ⟨b, off, none⟩) n cap, .int .i64 (n : Int), .bool false, undef, .slice (some ⟨b, off, none⟩) n cap, .int .i64 kind, .string key, .slice (some ⟨gn, 0, none⟩) m cn, .tuple #[.agg hh, .slice (some ⟨gp, 0, none⟩) m m], .slice (some ⟨b, off, none⟩) n cap, .slice (some ⟨gn, 0, none⟩) m cn, .tuple #[.agg hh, .slice (some ⟨gp, 0, none⟩) m m], .agg hh, .slice (some ⟨gp, 0, none⟩) m m, .slice (some ⟨gn, 0, none⟩) m cn, .int .i64 (m : Int), .int .i64 (t : Int), f 45, f 46, f 47, f 48, f 49, f 50, f 51, f 52, f 53, f 54, f 55, f 56, f 57, f 58, f 59, f 60, f 61, f 62, f 63, f 64, f 65, undef], defers := [] } ∧ t ≤ m ∧ ∃ ls, FI w5.heap.size w8 wr d n vl L ns t ls) (fun a _ => m - (intOf (a.tmps.getD 44 undef)).toNat) ⟨0, fun zz => [.slice (some ⟨b, off, none⟩) n cap, .int .i64 kind, .string key, undef, undef, undef, .pointer (some ⟨r, 0, none⟩), .int .i64 0, .int .i64 0, .pointer (some ⟨d, 0, none⟩), .slice (some ⟨gn, 0, none⟩) m cn, .pointer (some ⟨y, 0, none⟩), .slice (some ⟨gp, 0, none⟩) m m, undef, undef, .int .i64 kind, .bool true, .bool false, undef, .slice (some ⟨b, off, none⟩) n cap, .int .i64 0, .int .i64 0, .bool false, undef, undef, .slice (some ⟨b, off, none⟩) n cap, .int .i64 (n : Int), .agg #[.int .i64 (n : Int), .slice none 0 0], .slice (some ⟨b, off, none⟩) n cap, .int .i64 (n : Int), .bool false, undef, .slice (some ⟨b, off, none⟩) n cap, .int .i64 kind, .string key, .slice (some ⟨gn, 0, none⟩) m cn, .tuple #[.agg hh, .slice (some ⟨gp, 0, none⟩) m m], .slice (some ⟨b, off, none⟩) n cap, .slice (some ⟨gn, 0, none⟩) m cn, .tuple #[.agg hh, .slice (some ⟨gp, 0, none⟩) m m], .agg hh, .slice (some ⟨gp, 0, none⟩) m m, .slice (some ⟨gn, 0, none⟩) m cn, .int .i64 (m : Int), .int .i64 0, undef, undef, undef, undef, undef, undef, undef, undef, undef, undef, undef, undef, undef, undef, undef, undef, undef, undef, undef, undef, undef, undef].getD zz undef, .slice none 0 0, rfl, by omega, [], hFI0⟩ ?_
  rintro ac wr ⟨t, f, vl, rfl, htm0, hrel⟩
  obtain ⟨ls, hfi⟩ := hrel
  have JF := Keep.mk hfi
  clear hfi
  by_cases htm : t < m
  · have htm' : (t : Int) < (m : Int) := by omega
    have hw9 : IntKind.i64.wrap ((t : Int) + 1) = ((t + 1 : Nat) : Int) := by rw [IntKind.wrap_i64]; have := HM.out; omega
    obtain ⟨k, Hk⟩ : ∃ z, Keep (ns[t]? = some z) := ⟨ns[t]'(by rw [hm.out]; exact htm), ⟨List.getElem?_eq_getElem _⟩⟩
    have hkn : k < n := HNn.out k (List.mem_of_getElem? Hk.out)
    have hkn' : (k : Int) < (n : Int) := by omega
    obtain ⟨c, Hc⟩ : ∃ z, Keep (L[k]? = some z) := ⟨L[k]'(by rw [hn.out]; exact hkn), ⟨List.getElem?_eq_getElem _⟩⟩
    obtain ⟨P_, HP_⟩ : ∃ z, Keep (Ps[t]? = some z) := ⟨Ps[t]'(by have := T6.out.len; have := hm.out; omega), ⟨List.getElem?_eq_getElem _⟩⟩
    obtain ⟨pa, pc, hpv⟩ := owns_sl (T8.out.2 P_ (List.mem_of_getElem? HP_.out))
    have HPv := Keep.mk hpv
    clear hpv
    have hnd : Keep (∀ (g T : Nat), Typ w8 g T → T ≠ 31 → g ≠ d) := ⟨fun g T h hT e => hT (by subst e; exact h.one D8.out.typ)⟩
    have cN : wr.cell? ⟨gn, t, none⟩ = some (.int .i64 (k : Int)) := by
      rcases NS8.out with ⟨a, c', h, h2⟩ | ⟨g, c', h, h2, h3⟩
      · rw [h2] at hm; have := hm.out; simp at this; omega
      · injection h with e1 e2 e3
        injection e1 with e1
        injection e1 with e1
        subst e1
        exact JF.out.gr.cell (h3 t k Hk.out) (hnd.out _ _ h2 (by decide))
    refine wp_seq_k fun K14 hK14 => ?_
    refine wp_region_list (WL.out ?_)
    refine WL.val (by kernel_rfl) (.bool true) (by go_simp) ?_
    simp only [Act.put, List.setIfInBounds_toArray, List.set_cons_zero, List.set_cons_succ]
    refine WL.nil ?_
    refine hK14 _ _ ?_
    refine wp_seq_k fun K15 hK15 => ?_
    refine wp_cond_true rfl ?_
    refine wp_skip ?_
    refine hK15 _ _ ?_
    refine wp_seq_k fun K16 hK16 => ?_
    refine wp_block ?_
    refine wp_seq_k fun K17 hK17 => ?_
    refine wp_region_list (WL.out ?_)
    refine WL.val (by kernel_rfl) (.int .i64 (t : Int)) (by go_simp) ?_
    simp only [Act.put, List.setIfInBounds_toArray, List.set_cons_zero, List.set_cons_succ]
    refine WL.val (by kernel_rfl) (.pointer (some ⟨gn, t, none⟩)) (by go_simp) ?_
    simp only [Act.put, List.setIfInBounds_toArray, List.set_cons_zero, List.set_cons_succ]
    refine WL.val (by kernel_rfl) (.int .i64 (k : Int)) (by go_simp) ?_
    clear cN
    simp only [Act.put, List.setIfInBounds_toArray, List.set_cons_zero, List.set_cons_succ]
    refine WL.val (by kernel_rfl) (.int .i64 (t : Int)) (by go_simp) ?_
    simp only [Act.put, List.setIfInBounds_toArray, List.set_cons_zero, List.set_cons_succ]
    refine WL.val (by kernel_rfl) (.int .i64 (k : Int)) (by go_simp) ?_
    simp only [Act.put, List.setIfInBounds_toArray, List.set_cons_zero, List.set_cons_succ]
    refine WL.nil ?_
    refine hK17 _ _ ?_
    have hS0 : Keep (∀ wx : World, Grown wr wx (fun k => k = d ∨ w8.heap.size ≤ k) → (fun wx => wx.rangeAt b (off + k * 3) (cvA c).toList ∧ wx.cell? ⟨gp, t, none⟩ = some (.slice pa P_.ps.length pc)) wx) := ⟨fun wx hg => ⟨fun j u hu => hg.cell (JF.out.gr.cell ((HC.out.below B8.out).at_ k c Hc.out j u hu) (fun e => by have := HC.out.lt; have := gd.out; omega)) (fun e => by have := HC.out.lt; have := B8.out.size; have := gd.out; omega), hg.cell (JF.out.gr.cell (T8.out.1.c t (by simp [HP_.out, HPv.out])) (hnd.out _ _ T8.out.1.typ (by decide))) (fun e => by
      rcases e with e | e
      · exact hnd.out _ _ T8.out.1.typ (by decide) e
      · have := T8.out.1.lt; omega)⟩⟩
    have Hrow : Keep (RowAt wr.drew c.v c.l) := ⟨by
      have h := (HC.out.below B8.out).row c (List.mem_of_getElem? Hc.out)
      by_cases h0 : c.l = []
      · have h1 := h.1
        rw [h0] at h1 ⊢
        exact row_nil h1
      · exact (h.1.grown JF.out.gr.drew fun k hk _ e => by have := h.2 h0 k hk; have := gd.out; omega)⟩
    have hG0 : Keep (Grown wr wr.drew (fun k => k ≠ d ∧ w8.heap.size ≤ k)) := ⟨(Grown.refl _ _).drew⟩
    refine wp_region_held_drew (S := fun wx => wx.rangeAt b (off + k * 3) (cvA c).toList ∧ wx.cell? ⟨gp, t, none⟩ = some (.slice pa P_.ps.length pc)) (by kernel_rfl) (hS0.out _ (hG0.out.mono fun _ _ e => .inr e.2)) (fun hHeld => ?_)
    refine wpAnyH_take (i := 0) (oi := ⟨some 49, Op.fieldAddr 31 (Operand.tmp 9) 1, 0, _, _, none⟩) (v := .pointer (some ⟨d, 1, none⟩)) rfl (by kernel_rfl) (by kernel_rfl) (by kernel_rfl) (fun _ _ _ h => h) (Or.inl ⟨by rfl, fun w hS => by obtain ⟨hS1, hS2⟩ := hS; go_simp⟩) hHeld ?_
    simp only [Act.put, List.setIfInBounds_toArray, List.set_cons_zero, List.set_cons_succ]
    refine wpAnyH_take (i := 2) (oi := ⟨some 51, Op.move (Operand.tmp 14), 3, _, _, none⟩) (v := .int .i64 (k : Int)) rfl (by kernel_rfl) (by kernel_rfl) (by kernel_rfl) (fun _ _ _ h => h) (Or.inl ⟨by rfl, fun w hS => by obtain ⟨hS1, hS2⟩ := hS; go_simp⟩) hHeld ?_
    simp only [Act.put, List.setIfInBounds_toArray, List.set_cons_zero, List.set_cons_succ]
    refine wpAnyH_take (i := 3) (oi := ⟨some 52, Op.move (Operand.tmp 0), 23, _, _, none⟩) (v := .slice (some ⟨b, off, none⟩) n cap) rfl (by kernel_rfl) (by kernel_rfl) (by kernel_rfl) (fun _ _ _ h => h) (Or.inl ⟨by rfl, fun w hS => by obtain ⟨hS1, hS2⟩ := hS; go_simp⟩) hHeld ?_
    simp only [Act.put, List.setIfInBounds_toArray, List.set_cons_zero, List.set_cons_succ]
    refine wpAnyH_take (i := 4) (oi := ⟨some 53, Op.move (Operand.tmp 14), 3, _, _, none⟩) (v := .int .i64 (k : Int)) rfl (by kernel_rfl) (by kernel_rfl) (by kernel_rfl) (fun _ _ _ h => h) (Or.inl ⟨by rfl, fun w hS => by obtain ⟨hS1, hS2⟩ := hS; go_simp⟩) hHeld ?_
    simp only [Act.put, List.setIfInBounds_toArray, List.set_cons_zero, List.set_cons_succ]
    refine wpAnyH_take (i := 8) (oi := ⟨some 57, Op.move (Operand.tmp 12), 55, _, _, none⟩) (v := .slice (some ⟨gp, 0, none⟩) m m) rfl (by kernel_rfl) (by kernel_rfl) (by kernel_rfl) (fun _ _ _ h => h) (Or.inl ⟨by rfl, fun w hS => by obtain ⟨hS1, hS2⟩ := hS; go_simp⟩) hHeld ?_
    simp only [Act.put, List.setIfInBounds_toArray, List.set_cons_zero, List.set_cons_succ]
    refine wpAnyH_take (i := 9) (oi := ⟨some 58, Op.move (Operand.tmp 13), 3, _, _, none⟩) (v := .int .i64 (t : Int)) rfl (by kernel_rfl) (by kernel_rfl) (by kernel_rfl) (fun _ _ _ h => h) (Or.inl ⟨by rfl, fun w hS => by obtain ⟨hS1, hS2⟩ := hS; go_simp⟩) hHeld ?_
    simp only [Act.put, List.setIfInBounds_toArray, List.set_cons_zero, List.set_cons_succ]
    refine wpAnyH_take (i := 5) (oi := ⟨some 54, Op.indexAddr 23 (Operand.tmp 52) (Operand.tmp 53), 0, _, _, none⟩) (v := .pointer (some ⟨b, off + k * 3, none⟩)) rfl (by kernel_rfl) (by kernel_rfl) (by kernel_rfl) (fun _ _ _ h => h) (Or.inl ⟨by rfl, fun w hS => by obtain ⟨hS1, hS2⟩ := hS; go_simp⟩) hHeld ?_
    simp only [Act.put, List.setIfInBounds_toArray, List.set_cons_zero, List.set_cons_succ]
    refine wpAnyH_take (i := 10) (oi := ⟨some 59, Op.indexAddr 55 (Operand.tmp 57) (Operand.tmp 58), 0, _, _, none⟩) (v := .pointer (some ⟨gp, t, none⟩)) rfl (by kernel_rfl) (by kernel_rfl) (by kernel_rfl) (fun _ _ _ h => h) (Or.inl ⟨by rfl, fun w hS => by obtain ⟨hS1, hS2⟩ := hS; go_simp⟩) hHeld ?_
    simp only [Act.put, List.setIfInBounds_toArray, List.set_cons_zero, List.set_cons_succ]
    refine wpAnyH_take (i := 6) (oi := ⟨some 55, Op.load 40 (Operand.tmp 54), 40, _, _, none⟩) (v := .agg (cvA c)) rfl (by kernel_rfl) (by kernel_rfl) (by kernel_rfl) (fun _ _ _ h => h) (yieldsIf_ld (by rfl) (Operand.tmp 54) 40 rfl b (off + k * 3) rfl (cvA c) _ Try.underlying40 rfl (Try.sizeC _ _ _) fun w hS => hS.1) hHeld ?_
    simp only [Act.put, List.setIfInBounds_toArray, List.set_cons_zero, List.set_cons_succ]
    refine wpAnyH_take (i := 11) (oi := ⟨some 60, Op.load 67 (Operand.tmp 59), 67, _, _, none⟩) (v := .slice pa P_.ps.length pc) rfl (by kernel_rfl) (by kernel_rfl) (by kernel_rfl) (fun _ _ _ h => h) (Or.inl ⟨by rfl, fun w hS => by obtain ⟨hS1, hS2⟩ := hS; go_simp⟩) hHeld ?_
    simp only [Act.put, List.setIfInBounds_toArray, List.set_cons_zero, List.set_cons_succ]
    refine wpAnyH_ready (rs := [1, 7]) (by kernel_rfl) (by simp) ?_
    refine AllReadyH.cons (o := ⟨some 50, Op.load 29 (Operand.tmp 49), 29, _, _, none⟩) rfl (fun K hK => ?_) (AllReadyH.cons (o := ⟨some 56, Op.call { callee := Callee.value (Operand.func 30), args := #[Operand.tmp 55], argTypes := #[40] }, 40, _, _, none⟩) rfl (fun K hK => ?_) AllReadyH.nil)
    all_goals rw [if_pos (by rfl)]
    · have c_ : wr.drew.cell? ⟨d, 1, none⟩ = some vl := hG0.out.cell (JF.out.bd.c 1 rfl) (fun e => e.1 rfl)
      refine wp_val vl (by go_simp) ?_
      clear c_
      refine hK _ _ (hS0.out _ (hG0.out.mono fun _ _ e => .inr e.2)) fun hHl => ?_
      clear hK
      simp only [Act.put, List.setIfInBounds_toArray, List.set_cons_zero, List.set_cons_succ]
      refine wpAnyH_ready (rs := [7]) (by kernel_rfl) (by simp) ?_
      refine AllReadyH.cons (o := ⟨some 56, Op.call { callee := Callee.value (Operand.func 30), args := #[Operand.tmp 55], argTypes := #[40] }, 40, _, _, none⟩) rfl (fun K hK => ?_) AllReadyH.nil
      rw [if_pos (by rfl)]
      refine wp_callF 30 _ _ rfl Try.in30 #[.agg (cvA c)] (by simp [Act.eval]) (fun vz wz => ∃ v, vz = .agg #[.int .i64 c.k, .string c.s, v] ∧ Own wz v c.l ∧ Below wr.drew.heap.size wr.drew wz) ?_ ?_
      · refine (own_any c wr.drew Hrow.out (HSz.out c (List.mem_of_getElem? Hc.out))).mono ?_
        rintro e wz ⟨v, rfl, k1, k2, k3⟩
        exact ⟨_, rfl, v, rfl, k1, k3⟩
      rintro vz wa ⟨vo, rfl, k1, k3⟩
      have Oa := Keep.mk k1
      have ba := Keep.mk k3
      have hGa : Keep (Grown wr wa (fun k => k ≠ d ∧ w8.heap.size ≤ k)) := ⟨hG0.out.trans (Grown.below k3)⟩
      obtain ⟨xa, xn, xc, hvo⟩ := k1.sl
      subst hvo
      clear k1 k3
      refine hK _ _ (hS0.out _ (hGa.out.mono fun _ _ e => .inr e.2)) fun hHa => ?_
      clear hK
      simp only [Act.put, List.setIfInBounds_toArray, List.set_cons_zero, List.set_cons_succ]
      refine wpAnyH_ready (rs := [12]) (by kernel_rfl) (by simp) ?_
      refine AllReadyH.cons (o := ⟨some 61, Op.build 69 #[(0, Operand.tmp 51), (1, Operand.tmp 56), (2, Operand.tmp 60)], 69, _, _, none⟩) rfl (fun K hK => ?_) AllReadyH.nil
      rw [if_pos (by rfl)]
      refine wp_bldG 69 #[(0, .tmp 51), (1, .tmp 56), (2, .tmp 60)] rfl #[.int .i64 (k : Int), .int .i64 c.k, .string c.s, .slice xa xn xc, .slice pa P_.ps.length pc] (by simpa [Act.eval] using bldLf (k : Int) c.k c.s xa xn xc pa P_.ps.length pc) ?_
      refine hK _ _ (hS0.out _ (hGa.out.mono fun _ _ e => .inr e.2)) fun hHb => ?_
      clear hK
      simp only [Act.put, List.setIfInBounds_toArray, List.set_cons_zero, List.set_cons_succ]
      refine wpAnyH_ready (rs := [13]) (by kernel_rfl) (by simp) ?_
      refine AllReadyH.cons (o := ⟨some 62, Op.buildSlice 29 1 #[(0, Operand.tmp 61)], 29, _, _, none⟩) rfl (fun K hK => ?_) AllReadyH.nil
      rw [if_pos (by rfl)]
      refine wp_bs 29 1 _ rfl #[(0, .agg #[.int .i64 (k : Int), .int .i64 c.k, .string c.s, .slice xa xn xc, .slice pa P_.ps.length pc])] (by simp [Act.eval]) _ _ (bsLf (k : Int) c.k c.s xa xn xc pa P_.ps.length pc wa) ?_
      have bb := below_new wa (.cells #[.int .i64 (k : Int), .int .i64 c.k, .string c.s, .slice xa xn xc, .slice pa P_.ps.length pc] 69)
      have Qb := Keep.mk (Blk.new wa 69 #[.int .i64 (k : Int), .int .i64 c.k, .string c.s, .slice xa xn xc, .slice pa P_.ps.length pc])
      generalize wa.alloc (.cells #[.int .i64 (k : Int), .int .i64 c.k, .string c.s, .slice xa xn xc, .slice pa P_.ps.length pc] 69) = wb at *
      obtain ⟨g, hg⟩ : ∃ z, Keep (z = wa.heap.size) := ⟨_, ⟨rfl⟩⟩
      rw [← hg.out] at Qb ⊢
      have Ob := Keep.mk (owns_below Oa.out bb)
      have bb2 : Keep (Below wr.heap.size wr wb) := ⟨(Below.refl wr.heap.size wr).drew.trans (ba.out.trans (bb.mono ba.out.size))⟩
      have hGb : Keep (Grown wr wb (fun k => k ≠ d ∧ w8.heap.size ≤ k)) := ⟨hGa.out.trans (Grown.below bb)⟩
      clear bb hg
      refine hK _ _ (hS0.out _ (hGb.out.mono fun _ _ e => .inr e.2)) fun hHc => ?_
      clear hK
      simp only [Act.put, List.setIfInBounds_toArray, List.set_cons_zero, List.set_cons_succ]
      refine wpAnyH_ready (rs := [14]) (by kernel_rfl) (by simp) ?_
      refine AllReadyH.cons (o := ⟨some 63, Op.call { callee := Callee.builtin Builtin.append, args := #[Operand.tmp 50, Operand.tmp 62], argTypes := #[29, 29] }, 29, _, _, none⟩) rfl (fun K hK => ?_) AllReadyH.nil
      rw [if_pos (by rfl)]
      refine wp_appLf (.tmp 50) (.tmp 62) rfl w8.heap.size vl t _ (⟨(k : Int), ⟨c.k, c.s, .slice xa xn xc, c.l⟩, .slice pa P_.ps.length pc, P_.ps⟩ : LV) g rfl rfl (owns_below JF.out.own bb2.out) (blk_range Qb.out) (by simp [lvA, Value.oneCell']) (by have := HM.out; omega) (Nat.le_trans JF.out.gr.size (Nat.le_trans (Nat.le_refl _) bb2.out.size)) ?_
      intro v9 wc k1 k2 k3
      have Oc := Keep.mk k1
      have hvb : Keep (∀ k, vl.ownBlock = some k → w8.heap.size ≤ k ∧ Typ wb k 69) := ⟨fun k hk => ⟨by
        rcases JF.out.own.2 with ⟨h1, _⟩ | ⟨g9, c9, cur9, h1, h2, _⟩
        · rw [h1] at hk; cases hk
        · rw [h1] at hk; injection hk with hk; subst hk; exact h2, owns_typ (owns_below JF.out.own bb2.out) hk⟩⟩
      have Gc : Keep (Grown wb wc (fun k => vl.ownBlock = some k)) := ⟨k2⟩
      have hDb : Keep (Blk wb d 31 #[.int .i64 (n : Int), vl]) := ⟨JF.out.bd.below bb2.out JF.out.bd.lt⟩
      have hGc : Keep (Grown wr wc (fun k => k ≠ d ∧ w8.heap.size ≤ k)) := ⟨hGb.out.next k2 fun i _ e => ⟨fun ed => by subst ed; exact absurd ((hvb.out _ e).2.one hDb.out.typ) (by decide), (hvb.out i e).1⟩⟩
      have hDc : Keep (Blk wc d 31 #[.int .i64 (n : Int), vl]) := ⟨k2.blk hDb.out fun e => absurd ((hvb.out _ e).2.one hDb.out.typ) (by decide)⟩
      have f_o := hDc.out.frozen 1
      have c_o := hDc.out.c 1 (by rfl : (#[.int .i64 (n : Int), vl] : Array Value)[1]? = some vl)
      obtain ⟨za, zc, hv9⟩ := owns_sl k1
      subst hv9
      clear k1 k2 k3
      refine hK _ _ (hS0.out _ (hGc.out.mono fun _ _ e => .inr e.2)) fun hHd => ?_
      clear hK
      simp only [Act.put, List.setIfInBounds_toArray, List.set_cons_zero, List.set_cons_succ]
      refine wpAnyH_take (i := 15) (oi := ⟨some 64, Op.fieldAddr 31 (Operand.tmp 9) 1, 0, _, _, none⟩) (v := .pointer (some ⟨d, 1, none⟩)) rfl (by kernel_rfl) (by kernel_rfl) (by kernel_rfl) (fun _ _ _ h => h) (Or.inl ⟨by rfl, fun w hS => by obtain ⟨hS1, hS2⟩ := hS; go_simp⟩) hHd ?_
      simp only [Act.put, List.setIfInBounds_toArray, List.set_cons_zero, List.set_cons_succ]
      refine wpAnyH_ready (rs := [16]) (by kernel_rfl) (by simp) ?_
      refine AllReadyH.cons (o := ⟨none, Op.store 29 (Operand.tmp 64) (Operand.tmp 63), 0, _, _, none⟩) rfl (fun K hK => ?_) AllReadyH.nil
      rw [if_pos (by rfl)]
      refine wp_cellS (wc.setCell ⟨d, 1, none⟩ (.slice za (t + 1) zc)) (by go_simp) ?_
      clear f_o c_o
      have Dd : Keep (Blk (wc.setCell ⟨d, 1, none⟩ (.slice za (t + 1) zc)) d 31 #[.int .i64 (n : Int), .slice za (t + 1) zc]) := ⟨by have h := hDc.out.set 1 (.slice za (t + 1) zc); exact h⟩
      have g_ : Grown wc (wc.setCell ⟨d, 1, none⟩ (.slice za (t + 1) zc)) (fun k => k = d) := Grown.setCell wc d 1 _ fun _ => rfl
      have FIe : Keep (FI w5.heap.size w8 (wc.setCell ⟨d, 1, none⟩ (.slice za (t + 1) zc)) d n (.slice za (t + 1) zc) L ns (t + 1) (ls ++ [(⟨(k : Int), ⟨c.k, c.s, .slice xa xn xc, c.l⟩, .slice pa P_.ps.length pc, P_.ps⟩ : LV)])) := ⟨by
        have hall : ∀ {B T s n' : Nat} {v : Value} {xs : List Value}, wb.ownsRow B T s v n' xs → T ≠ 69 → T ≠ 31 → (wc.setCell ⟨d, 1, none⟩ (.slice za (t + 1) zc)).ownsRow B T s v n' xs := fun h h1 h2 =>
          owns_grown (owns_grown h Gc.out fun k hk e => h1 ((owns_typ h hk).one (hvb.out k e).2)) g_ fun k hk e => by
            subst e
            exact h2 ((owns_typ h hk).one hDb.out.typ)
        have hnx : ∀ x ∈ ls, Own (wc.setCell ⟨d, 1, none⟩ (.slice za (t + 1) zc)) x.c.v x.c.l ∧ (wc.setCell ⟨d, 1, none⟩ (.slice za (t + 1) zc)).ownsRow w5.heap.size 25 32 x.pv x.ps.length (flatH x.ps) := fun x hx =>
          ⟨hall (owns_below (JF.out.rows x hx).1 bb2.out) (by decide) (by decide), hall (owns_below (JF.out.rows x hx).2 bb2.out) (by decide) (by decide)⟩
        refine ⟨(JF.out.gr.next hGc.out fun i hi e => by have := e.2; omega).trans g_, Dd.out, ?_, by rw [List.length_append, JF.out.len]; rfl, fun x hx => ?_, fun j k' x hj hx => ?_⟩
        · rw [List.flatMap_append, show List.flatMap (fun x => (lvA x).toList) [(⟨(k : Int), ⟨c.k, c.s, .slice xa xn xc, c.l⟩, .slice pa P_.ps.length pc, P_.ps⟩ : LV)] = (lvA (⟨(k : Int), ⟨c.k, c.s, .slice xa xn xc, c.l⟩, .slice pa P_.ps.length pc, P_.ps⟩ : LV)).toList from by simp]
          exact owns_grown Oc.out g_ fun k hk e => by
            subst e
            exact absurd ((owns_typ Oc.out hk).one hDc.out.typ) (by decide)
        · rcases List.mem_append.mp hx with hx | hx
          · exact hnx x hx
          · rw [List.mem_singleton.mp hx]
            refine ⟨hall Ob.out (by decide) (by decide), hall (owns_below (owns_grown ?_ JF.out.gr fun k hk e => ?_) bb2.out) (by decide) (by decide)⟩
            · have h := T8.out.2 P_ (List.mem_of_getElem? HP_.out)
              rw [HPv.out] at h
              exact h
            · have h := T8.out.2 P_ (List.mem_of_getElem? HP_.out)
              rw [HPv.out] at h
              subst e
              exact absurd ((owns_typ h hk).one D8.out.typ) (by decide)
        · by_cases hjt : j < t
          · exact JF.out.is j k' x hj (by rw [List.getElem?_append_left (by rw [JF.out.len]; exact hjt)] at hx; exact hx)
          · rw [List.getElem?_append_right (by rw [JF.out.len]; omega), JF.out.len] at hx
            obtain rfl : j = t := by
              have := (List.getElem?_eq_some_iff.mp hx).1
              simp at this; omega
            rw [Nat.sub_self] at hx
            simp at hx
            subst hx
            obtain rfl : k = k' := Option.some.inj (Hk.out.symm.trans hj)
            exact ⟨rfl, ⟨c, Hc.out, rfl, rfl, rfl⟩, T6.out.is j k P_ Hk.out HP_.out (by rw [hn.out]; exact hkn)⟩⟩
      have hGe : Keep (Grown wr (wc.setCell ⟨d, 1, none⟩ (.slice za (t + 1) zc)) (fun k => k = d ∨ w8.heap.size ≤ k)) := ⟨(hGc.out.mono fun _ _ e => .inr e.2).trans (g_.mono fun _ _ e => .inl e)⟩
      generalize wc.setCell ⟨d, 1, none⟩ (.slice za (t + 1) zc) = wd at *
      clear g_
      refine hK _ _ (hS0.out _ hGe.out) fun hHe => ?_
      clear hK
      simp only [Act.put, List.setIfInBounds_toArray, List.set_cons_zero, List.set_cons_succ]
      refine wpAnyH_done (by kernel_rfl) ?_ _
      refine hK16 _ _ ?_
      refine wp_region_list (WL.out ?_)
      refine WL.val (by kernel_rfl) (.int .i64 ((t + 1 : Nat) : Int)) (by go_simp) ?_
      simp only [Act.put, List.setIfInBounds_toArray, List.set_cons_zero, List.set_cons_succ]
      refine WL.val (by kernel_rfl) (.int .i64 ((t + 1 : Nat) : Int)) (by go_simp) ?_
      simp only [Act.put, List.setIfInBounds_toArray, List.set_cons_zero, List.set_cons_succ]
      refine WL.nil ?_
      refine ⟨⟨t + 1, fun zz => [.slice (some ⟨b, off, none⟩) n cap, .int .i64 kind, .string key, undef, undef, undef, .pointer (some ⟨r, 0, none⟩), .int .i64 0, .int .i64 0, .pointer (some ⟨d, 0, none⟩), .slice (some ⟨gn, 0, none⟩) m cn, .pointer (some ⟨y, 0, none⟩), .slice (some ⟨gp, 0, none⟩) m m, .int .i64 (t : Int), .int .i64 (k : Int), .int .i64 kind, .bool true, .bool false, undef, .slice (some ⟨b, off, none⟩) n cap, .int .i64 0, .int .i64 0, .bool false, undef, undef, .slice (some ⟨b, off, none⟩) n cap, .int .i64 (n : Int), .agg #[.int .i64 (n : Int), .slice none 0 0], .slice (some ⟨b, off, none⟩) n cap, .int .i64 (n : Int), .bool false, undef, .slice (some ⟨b, off, none⟩) n cap, .int .i64 kind, .string key, .slice (some ⟨gn, 0, none⟩) m cn, .tuple #[.agg hh, .slice (some ⟨gp, 0, none⟩) m m], .slice (some ⟨b, off, none⟩) n cap, .slice (some ⟨gn, 0, none⟩) m cn, .tuple #[.agg hh, .slice (some ⟨gp, 0, none⟩) m m], .agg hh, .slice (some ⟨gp, 0, none⟩) m m, .slice (some ⟨gn, 0, none⟩) m cn, .int .i64 (m : Int), .int .i64 ((t + 1 : Nat) : Int), .bool true, .int .i64 (t : Int), .pointer (some ⟨gn, t, none⟩), .int .i64 (k : Int), .pointer (some ⟨d, 1, none⟩), vl, .int .i64 (k : Int), .slice (some ⟨b, off, none⟩) n cap, .int .i64 (k : Int), .pointer (some ⟨b, off + k * 3, none⟩), .agg (cvA c), .agg #[.int .i64 c.k, .string c.s, .slice xa xn xc], .slice (some ⟨gp, 0, none⟩) m m, .int .i64 (t : Int), .pointer (some ⟨gp, t, none⟩), .slice pa P_.ps.length pc, .agg #[.int .i64 (k : Int), .int .i64 c.k, .string c.s, .slice xa xn xc, .slice pa P_.ps.length pc], .slice (some ⟨g, 0, none⟩) 1 1, .slice za (t + 1) zc, .pointer (some ⟨d, 1, none⟩), .int .i64 ((t + 1 : Nat) : Int), undef].getD zz undef, .slice za (t + 1) zc, rfl, by omega, _, FIe.out⟩, ?_⟩
      · simp only [intOf]; show m - (((t + 1 : Nat) : Int)).toNat < m - ((t : Int)).toNat; omega
    · refine wp_callF 30 _ _ rfl Try.in30 #[.agg (cvA c)] (by simp [Act.eval]) (fun vz wz => ∃ v, vz = .agg #[.int .i64 c.k, .string c.s, v] ∧ Own wz v c.l ∧ Below wr.drew.heap.size wr.drew wz) ?_ ?_
      · refine (own_any c wr.drew Hrow.out (HSz.out c (List.mem_of_getElem? Hc.out))).mono ?_
        rintro e wz ⟨v, rfl, k1, k2, k3⟩
        exact ⟨_, rfl, v, rfl, k1, k3⟩
      rintro vz wa ⟨vo, rfl, k1, k3⟩
      have Oa := Keep.mk k1
      have ba := Keep.mk k3
      have hGa : Keep (Grown wr wa (fun k => k ≠ d ∧ w8.heap.size ≤ k)) := ⟨hG0.out.trans (Grown.below k3)⟩
      obtain ⟨xa, xn, xc, hvo⟩ := k1.sl
      subst hvo
      clear k1 k3
      refine hK _ _ (hS0.out _ (hGa.out.mono fun _ _ e => .inr e.2)) fun hHa => ?_
      clear hK
      simp only [Act.put, List.setIfInBounds_toArray, List.set_cons_zero, List.set_cons_succ]
      refine wpAnyH_ready (rs := [1, 12]) (by kernel_rfl) (by simp) ?_
      refine AllReadyH.cons (o := ⟨some 50, Op.load 29 (Operand.tmp 49), 29, _, _, none⟩) rfl (fun K hK => ?_) (AllReadyH.cons (o := ⟨some 61, Op.build 69 #[(0, Operand.tmp 51), (1, Operand.tmp 56), (2, Operand.tmp 60)], 69, _, _, none⟩) rfl (fun K hK => ?_) AllReadyH.nil)
      all_goals rw [if_pos (by rfl)]
      · have c_ : wa.cell? ⟨d, 1, none⟩ = some vl := hGa.out.cell (JF.out.bd.c 1 rfl) (fun e => e.1 rfl)
        refine wp_val vl (by go_simp) ?_
        clear c_
        refine hK _ _ (hS0.out _ (hGa.out.mono fun _ _ e => .inr e.2)) fun hHl => ?_
        clear hK
        simp only [Act.put, List.setIfInBounds_toArray, List.set_cons_zero, List.set_cons_succ]
        refine wpAnyH_ready (rs := [12]) (by kernel_rfl) (by simp) ?_
        refine AllReadyH.cons (o := ⟨some 61, Op.build 69 #[(0, Operand.tmp 51), (1, Operand.tmp 56), (2, Operand.tmp 60)], 69, _, _, none⟩) rfl (fun K hK => ?_) AllReadyH.nil
        rw [if_pos (by rfl)]
        refine wp_bldG 69 #[(0, .tmp 51), (1, .tmp 56), (2, .tmp 60)] rfl #[.int .i64 (k : Int), .int .i64 c.k, .string c.s, .slice xa xn xc, .slice pa P_.ps.length pc] (by simpa [Act.eval] using bldLf (k : Int) c.k c.s xa xn xc pa P_.ps.length pc) ?_
        refine hK _ _ (hS0.out _ (hGa.out.mono fun _ _ e => .inr e.2)) fun hHb => ?_
        clear hK
        simp only [Act.put, List.setIfInBounds_toArray, List.set_cons_zero, List.set_cons_succ]
        refine wpAnyH_ready (rs := [13]) (by kernel_rfl) (by simp) ?_
        refine AllReadyH.cons (o := ⟨some 62, Op.buildSlice 29 1 #[(0, Operand.tmp 61)], 29, _, _, none⟩) rfl (fun K hK => ?_) AllReadyH.nil
        rw [if_pos (by rfl)]
        refine wp_bs 29 1 _ rfl #[(0, .agg #[.int .i64 (k : Int), .int .i64 c.k, .string c.s, .slice xa xn xc, .slice pa P_.ps.length pc])] (by simp [Act.eval]) _ _ (bsLf (k : Int) c.k c.s xa xn xc pa P_.ps.length pc wa) ?_
        have bb := below_new wa (.cells #[.int .i64 (k : Int), .int .i64 c.k, .string c.s, .slice xa xn xc, .slice pa P_.ps.length pc] 69)
        have Qb := Keep.mk (Blk.new wa 69 #[.int .i64 (k : Int), .int .i64 c.k, .string c.s, .slice xa xn xc, .slice pa P_.ps.length pc])
        generalize wa.alloc (.cells #[.int .i64 (k : Int), .int .i64 c.k, .string c.s, .slice xa xn xc, .slice pa P_.ps.length pc] 69) = wb at *
        obtain ⟨g, hg⟩ : ∃ z, Keep (z = wa.heap.size) := ⟨_, ⟨rfl⟩⟩
        rw [← hg.out] at Qb ⊢
        have Ob := Keep.mk (owns_below Oa.out bb)
        have bb2 : Keep (Below wr.heap.size wr wb) := ⟨(Below.refl wr.heap.size wr).drew.trans (ba.out.trans (bb.mono ba.out.size))⟩
        have hGb : Keep (Grown wr wb (fun k => k ≠ d ∧ w8.heap.size ≤ k)) := ⟨hGa.out.trans (Grown.below bb)⟩
        clear bb hg
        refine hK _ _ (hS0.out _ (hGb.out.mono fun _ _ e => .inr e.2)) fun hHc => ?_
        clear hK
        simp only [Act.put, List.setIfInBounds_toArray, List.set_cons_zero, List.set_cons_succ]
        refine wpAnyH_ready (rs := [14]) (by kernel_rfl) (by simp) ?_
        refine AllReadyH.cons (o := ⟨some 63, Op.call { callee := Callee.builtin Builtin.append, args := #[Operand.tmp 50, Operand.tmp 62], argTypes := #[29, 29] }, 29, _, _, none⟩) rfl (fun K hK => ?_) AllReadyH.nil
        rw [if_pos (by rfl)]
        refine wp_appLf (.tmp 50) (.tmp 62) rfl w8.heap.size vl t _ (⟨(k : Int), ⟨c.k, c.s, .slice xa xn xc, c.l⟩, .slice pa P_.ps.length pc, P_.ps⟩ : LV) g rfl rfl (owns_below JF.out.own bb2.out) (blk_range Qb.out) (by simp [lvA, Value.oneCell']) (by have := HM.out; omega) (Nat.le_trans JF.out.gr.size (Nat.le_trans (Nat.le_refl _) bb2.out.size)) ?_
        intro v9 wc k1 k2 k3
        have Oc := Keep.mk k1
        have hvb : Keep (∀ k, vl.ownBlock = some k → w8.heap.size ≤ k ∧ Typ wb k 69) := ⟨fun k hk => ⟨by
          rcases JF.out.own.2 with ⟨h1, _⟩ | ⟨g9, c9, cur9, h1, h2, _⟩
          · rw [h1] at hk; cases hk
          · rw [h1] at hk; injection hk with hk; subst hk; exact h2, owns_typ (owns_below JF.out.own bb2.out) hk⟩⟩
        have Gc : Keep (Grown wb wc (fun k => vl.ownBlock = some k)) := ⟨k2⟩
        have hDb : Keep (Blk wb d 31 #[.int .i64 (n : Int), vl]) := ⟨JF.out.bd.below bb2.out JF.out.bd.lt⟩
        have hGc : Keep (Grown wr wc (fun k => k ≠ d ∧ w8.heap.size ≤ k)) := ⟨hGb.out.next k2 fun i _ e => ⟨fun ed => by subst ed; exact absurd ((hvb.out _ e).2.one hDb.out.typ) (by decide), (hvb.out i e).1⟩⟩
        have hDc : Keep (Blk wc d 31 #[.int .i64 (n : Int), vl]) := ⟨k2.blk hDb.out fun e => absurd ((hvb.out _ e).2.one hDb.out.typ) (by decide)⟩
        have f_o := hDc.out.frozen 1
        have c_o := hDc.out.c 1 (by rfl : (#[.int .i64 (n : Int), vl] : Array Value)[1]? = some vl)
        obtain ⟨za, zc, hv9⟩ := owns_sl k1
        subst hv9
        clear k1 k2 k3
        refine hK _ _ (hS0.out _ (hGc.out.mono fun _ _ e => .inr e.2)) fun hHd => ?_
        clear hK
        simp only [Act.put, List.setIfInBounds_toArray, List.set_cons_zero, List.set_cons_succ]
        refine wpAnyH_take (i := 15) (oi := ⟨some 64, Op.fieldAddr 31 (Operand.tmp 9) 1, 0, _, _, none⟩) (v := .pointer (some ⟨d, 1, none⟩)) rfl (by kernel_rfl) (by kernel_rfl) (by kernel_rfl) (fun _ _ _ h => h) (Or.inl ⟨by rfl, fun w hS => by obtain ⟨hS1, hS2⟩ := hS; go_simp⟩) hHd ?_
        simp only [Act.put, List.setIfInBounds_toArray, List.set_cons_zero, List.set_cons_succ]
        refine wpAnyH_ready (rs := [16]) (by kernel_rfl) (by simp) ?_
        refine AllReadyH.cons (o := ⟨none, Op.store 29 (Operand.tmp 64) (Operand.tmp 63), 0, _, _, none⟩) rfl (fun K hK => ?_) AllReadyH.nil
        rw [if_pos (by rfl)]
        refine wp_cellS (wc.setCell ⟨d, 1, none⟩ (.slice za (t + 1) zc)) (by go_simp) ?_
        clear f_o c_o
        have Dd : Keep (Blk (wc.setCell ⟨d, 1, none⟩ (.slice za (t + 1) zc)) d 31 #[.int .i64 (n : Int), .slice za (t + 1) zc]) := ⟨by have h := hDc.out.set 1 (.slice za (t + 1) zc); exact h⟩
        have g_ : Grown wc (wc.setCell ⟨d, 1, none⟩ (.slice za (t + 1) zc)) (fun k => k = d) := Grown.setCell wc d 1 _ fun _ => rfl
        have FIe : Keep (FI w5.heap.size w8 (wc.setCell ⟨d, 1, none⟩ (.slice za (t + 1) zc)) d n (.slice za (t + 1) zc) L ns (t + 1) (ls ++ [(⟨(k : Int), ⟨c.k, c.s, .slice xa xn xc, c.l⟩, .slice pa P_.ps.length pc, P_.ps⟩ : LV)])) := ⟨by
          have hall : ∀ {B T s n' : Nat} {v : Value} {xs : List Value}, wb.ownsRow B T s v n' xs → T ≠ 69 → T ≠ 31 → (wc.setCell ⟨d, 1, none⟩ (.slice za (t + 1) zc)).ownsRow B T s v n' xs := fun h h1 h2 =>
            owns_grown (owns_grown h Gc.out fun k hk e => h1 ((owns_typ h hk).one (hvb.out k e).2)) g_ fun k hk e => by
              subst e
              exact h2 ((owns_typ h hk).one hDb.out.typ)
          have hnx : ∀ x ∈ ls, Own (wc.setCell ⟨d, 1, none⟩ (.slice za (t + 1) zc)) x.c.v x.c.l ∧ (wc.setCell ⟨d, 1, none⟩ (.slice za (t + 1) zc)).ownsRow w5.heap.size 25 32 x.pv x.ps.length (flatH x.ps) := fun x hx =>
            ⟨hall (owns_below (JF.out.rows x hx).1 bb2.out) (by decide) (by decide), hall (owns_below (JF.out.rows x hx).2 bb2.out) (by decide) (by decide)⟩
          refine ⟨(JF.out.gr.next hGc.out fun i hi e => by have := e.2; omega).trans g_, Dd.out, ?_, by rw [List.length_append, JF.out.len]; rfl, fun x hx => ?_, fun j k' x hj hx => ?_⟩
          · rw [List.flatMap_append, show List.flatMap (fun x => (lvA x).toList) [(⟨(k : Int), ⟨c.k, c.s, .slice xa xn xc, c.l⟩, .slice pa P_.ps.length pc, P_.ps⟩ : LV)] = (lvA (⟨(k : Int), ⟨c.k, c.s, .slice xa xn xc, c.l⟩, .slice pa P_.ps.length pc, P_.ps⟩ : LV)).toList from by simp]
            exact owns_grown Oc.out g_ fun k hk e => by
              subst e
              exact absurd ((owns_typ Oc.out hk).one hDc.out.typ) (by decide)
          · rcases List.mem_append.mp hx with hx | hx
            · exact hnx x hx
            · rw [List.mem_singleton.mp hx]
              refine ⟨hall Ob.out (by decide) (by decide), hall (owns_below (owns_grown ?_ JF.out.gr fun k hk e => ?_) bb2.out) (by decide) (by decide)⟩
              · have h := T8.out.2 P_ (List.mem_of_getElem? HP_.out)
                rw [HPv.out] at h
                exact h
              · have h := T8.out.2 P_ (List.mem_of_getElem? HP_.out)
                rw [HPv.out] at h
                subst e
                exact absurd ((owns_typ h hk).one D8.out.typ) (by decide)
          · by_cases hjt : j < t
            · exact JF.out.is j k' x hj (by rw [List.getElem?_append_left (by rw [JF.out.len]; exact hjt)] at hx; exact hx)
            · rw [List.getElem?_append_right (by rw [JF.out.len]; omega), JF.out.len] at hx
              obtain rfl : j = t := by
                have := (List.getElem?_eq_some_iff.mp hx).1
                simp at this; omega
              rw [Nat.sub_self] at hx
              simp at hx
              subst hx
              obtain rfl : k = k' := Option.some.inj (Hk.out.symm.trans hj)
              exact ⟨rfl, ⟨c, Hc.out, rfl, rfl, rfl⟩, T6.out.is j k P_ Hk.out HP_.out (by rw [hn.out]; exact hkn)⟩⟩
        have hGe : Keep (Grown wr (wc.setCell ⟨d, 1, none⟩ (.slice za (t + 1) zc)) (fun k => k = d ∨ w8.heap.size ≤ k)) := ⟨(hGc.out.mono fun _ _ e => .inr e.2).trans (g_.mono fun _ _ e => .inl e)⟩
        generalize wc.setCell ⟨d, 1, none⟩ (.slice za (t + 1) zc) = wd at *
        clear g_
        refine hK _ _ (hS0.out _ hGe.out) fun hHe => ?_
        clear hK
        simp only [Act.put, List.setIfInBounds_toArray, List.set_cons_zero, List.set_cons_succ]
        refine wpAnyH_done (by kernel_rfl) ?_ _
        refine hK16 _ _ ?_
        refine wp_region_list (WL.out ?_)
        refine WL.val (by kernel_rfl) (.int .i64 ((t + 1 : Nat) : Int)) (by go_simp) ?_
        simp only [Act.put, List.setIfInBounds_toArray, List.set_cons_zero, List.set_cons_succ]
        refine WL.val (by kernel_rfl) (.int .i64 ((t + 1 : Nat) : Int)) (by go_simp) ?_
        simp only [Act.put, List.setIfInBounds_toArray, List.set_cons_zero, List.set_cons_succ]
        refine WL.nil ?_
        refine ⟨⟨t + 1, fun zz => [.slice (some ⟨b, off, none⟩) n cap, .int .i64 kind, .string key, undef, undef, undef, .pointer (some ⟨r, 0, none⟩), .int .i64 0, .int .i64 0, .pointer (some ⟨d, 0, none⟩), .slice (some ⟨gn, 0, none⟩) m cn, .pointer (some ⟨y, 0, none⟩), .slice (some ⟨gp, 0, none⟩) m m, .int .i64 (t : Int), .int .i64 (k : Int), .int .i64 kind, .bool true, .bool false, undef, .slice (some ⟨b, off, none⟩) n cap, .int .i64 0, .int .i64 0, .bool false, undef, undef, .slice (some ⟨b, off, none⟩) n cap, .int .i64 (n : Int), .agg #[.int .i64 (n : Int), .slice none 0 0], .slice (some ⟨b, off, none⟩) n cap, .int .i64 (n : Int), .bool false, undef, .slice (some ⟨b, off, none⟩) n cap, .int .i64 kind, .string key, .slice (some ⟨gn, 0, none⟩) m cn, .tuple #[.agg hh, .slice (some ⟨gp, 0, none⟩) m m], .slice (some ⟨b, off, none⟩) n cap, .slice (some ⟨gn, 0, none⟩) m cn, .tuple #[.agg hh, .slice (some ⟨gp, 0, none⟩) m m], .agg hh, .slice (some ⟨gp, 0, none⟩) m m, .slice (some ⟨gn, 0, none⟩) m cn, .int .i64 (m : Int), .int .i64 ((t + 1 : Nat) : Int), .bool true, .int .i64 (t : Int), .pointer (some ⟨gn, t, none⟩), .int .i64 (k : Int), .pointer (some ⟨d, 1, none⟩), vl, .int .i64 (k : Int), .slice (some ⟨b, off, none⟩) n cap, .int .i64 (k : Int), .pointer (some ⟨b, off + k * 3, none⟩), .agg (cvA c), .agg #[.int .i64 c.k, .string c.s, .slice xa xn xc], .slice (some ⟨gp, 0, none⟩) m m, .int .i64 (t : Int), .pointer (some ⟨gp, t, none⟩), .slice pa P_.ps.length pc, .agg #[.int .i64 (k : Int), .int .i64 c.k, .string c.s, .slice xa xn xc, .slice pa P_.ps.length pc], .slice (some ⟨g, 0, none⟩) 1 1, .slice za (t + 1) zc, .pointer (some ⟨d, 1, none⟩), .int .i64 ((t + 1 : Nat) : Int), undef].getD zz undef, .slice za (t + 1) zc, rfl, by omega, _, FIe.out⟩, ?_⟩
        · simp only [intOf]; show m - (((t + 1 : Nat) : Int)).toNat < m - ((t : Int)).toNat; omega
      · refine wp_bldG 69 #[(0, .tmp 51), (1, .tmp 56), (2, .tmp 60)] rfl #[.int .i64 (k : Int), .int .i64 c.k, .string c.s, .slice xa xn xc, .slice pa P_.ps.length pc] (by simpa [Act.eval] using bldLf (k : Int) c.k c.s xa xn xc pa P_.ps.length pc) ?_
        refine hK _ _ (hS0.out _ (hGa.out.mono fun _ _ e => .inr e.2)) fun hHb => ?_
        clear hK
        simp only [Act.put, List.setIfInBounds_toArray, List.set_cons_zero, List.set_cons_succ]
        refine wpAnyH_ready (rs := [1, 13]) (by kernel_rfl) (by simp) ?_
        refine AllReadyH.cons (o := ⟨some 50, Op.load 29 (Operand.tmp 49), 29, _, _, none⟩) rfl (fun K hK => ?_) (AllReadyH.cons (o := ⟨some 62, Op.buildSlice 29 1 #[(0, Operand.tmp 61)], 29, _, _, none⟩) rfl (fun K hK => ?_) AllReadyH.nil)
        all_goals rw [if_pos (by rfl)]
        · have c_ : wa.cell? ⟨d, 1, none⟩ = some vl := hGa.out.cell (JF.out.bd.c 1 rfl) (fun e => e.1 rfl)
          refine wp_val vl (by go_simp) ?_
          clear c_
          refine hK _ _ (hS0.out _ (hGa.out.mono fun _ _ e => .inr e.2)) fun hHl => ?_
          clear hK
          simp only [Act.put, List.setIfInBounds_toArray, List.set_cons_zero, List.set_cons_succ]
          refine wpAnyH_ready (rs := [13]) (by kernel_rfl) (by simp) ?_
          refine AllReadyH.cons (o := ⟨some 62, Op.buildSlice 29 1 #[(0, Operand.tmp 61)], 29, _, _, none⟩) rfl (fun K hK => ?_) AllReadyH.nil
          rw [if_pos (by rfl)]
          refine wp_bs 29 1 _ rfl #[(0, .agg #[.int .i64 (k : Int), .int .i64 c.k, .string c.s, .slice xa xn xc, .slice pa P_.ps.length pc])] (by simp [Act.eval]) _ _ (bsLf (k : Int) c.k c.s xa xn xc pa P_.ps.length pc wa) ?_
          have bb := below_new wa (.cells #[.int .i64 (k : Int), .int .i64 c.k, .string c.s, .slice xa xn xc, .slice pa P_.ps.length pc] 69)
          have Qb := Keep.mk (Blk.new wa 69 #[.int .i64 (k : Int), .int .i64 c.k, .string c.s, .slice xa xn xc, .slice pa P_.ps.length pc])
          generalize wa.alloc (.cells #[.int .i64 (k : Int), .int .i64 c.k, .string c.s, .slice xa xn xc, .slice pa P_.ps.length pc] 69) = wb at *
          obtain ⟨g, hg⟩ : ∃ z, Keep (z = wa.heap.size) := ⟨_, ⟨rfl⟩⟩
          rw [← hg.out] at Qb ⊢
          have Ob := Keep.mk (owns_below Oa.out bb)
          have bb2 : Keep (Below wr.heap.size wr wb) := ⟨(Below.refl wr.heap.size wr).drew.trans (ba.out.trans (bb.mono ba.out.size))⟩
          have hGb : Keep (Grown wr wb (fun k => k ≠ d ∧ w8.heap.size ≤ k)) := ⟨hGa.out.trans (Grown.below bb)⟩
          clear bb hg
          refine hK _ _ (hS0.out _ (hGb.out.mono fun _ _ e => .inr e.2)) fun hHc => ?_
          clear hK
          simp only [Act.put, List.setIfInBounds_toArray, List.set_cons_zero, List.set_cons_succ]
          refine wpAnyH_ready (rs := [14]) (by kernel_rfl) (by simp) ?_
          refine AllReadyH.cons (o := ⟨some 63, Op.call { callee := Callee.builtin Builtin.append, args := #[Operand.tmp 50, Operand.tmp 62], argTypes := #[29, 29] }, 29, _, _, none⟩) rfl (fun K hK => ?_) AllReadyH.nil
          rw [if_pos (by rfl)]
          refine wp_appLf (.tmp 50) (.tmp 62) rfl w8.heap.size vl t _ (⟨(k : Int), ⟨c.k, c.s, .slice xa xn xc, c.l⟩, .slice pa P_.ps.length pc, P_.ps⟩ : LV) g rfl rfl (owns_below JF.out.own bb2.out) (blk_range Qb.out) (by simp [lvA, Value.oneCell']) (by have := HM.out; omega) (Nat.le_trans JF.out.gr.size (Nat.le_trans (Nat.le_refl _) bb2.out.size)) ?_
          intro v9 wc k1 k2 k3
          have Oc := Keep.mk k1
          have hvb : Keep (∀ k, vl.ownBlock = some k → w8.heap.size ≤ k ∧ Typ wb k 69) := ⟨fun k hk => ⟨by
            rcases JF.out.own.2 with ⟨h1, _⟩ | ⟨g9, c9, cur9, h1, h2, _⟩
            · rw [h1] at hk; cases hk
            · rw [h1] at hk; injection hk with hk; subst hk; exact h2, owns_typ (owns_below JF.out.own bb2.out) hk⟩⟩
          have Gc : Keep (Grown wb wc (fun k => vl.ownBlock = some k)) := ⟨k2⟩
          have hDb : Keep (Blk wb d 31 #[.int .i64 (n : Int), vl]) := ⟨JF.out.bd.below bb2.out JF.out.bd.lt⟩
          have hGc : Keep (Grown wr wc (fun k => k ≠ d ∧ w8.heap.size ≤ k)) := ⟨hGb.out.next k2 fun i _ e => ⟨fun ed => by subst ed; exact absurd ((hvb.out _ e).2.one hDb.out.typ) (by decide), (hvb.out i e).1⟩⟩
          have hDc : Keep (Blk wc d 31 #[.int .i64 (n : Int), vl]) := ⟨k2.blk hDb.out fun e => absurd ((hvb.out _ e).2.one hDb.out.typ) (by decide)⟩
          have f_o := hDc.out.frozen 1
          have c_o := hDc.out.c 1 (by rfl : (#[.int .i64 (n : Int), vl] : Array Value)[1]? = some vl)
          obtain ⟨za, zc, hv9⟩ := owns_sl k1
          subst hv9
          clear k1 k2 k3
          refine hK _ _ (hS0.out _ (hGc.out.mono fun _ _ e => .inr e.2)) fun hHd => ?_
          clear hK
          simp only [Act.put, List.setIfInBounds_toArray, List.set_cons_zero, List.set_cons_succ]
          refine wpAnyH_take (i := 15) (oi := ⟨some 64, Op.fieldAddr 31 (Operand.tmp 9) 1, 0, _, _, none⟩) (v := .pointer (some ⟨d, 1, none⟩)) rfl (by kernel_rfl) (by kernel_rfl) (by kernel_rfl) (fun _ _ _ h => h) (Or.inl ⟨by rfl, fun w hS => by obtain ⟨hS1, hS2⟩ := hS; go_simp⟩) hHd ?_
          simp only [Act.put, List.setIfInBounds_toArray, List.set_cons_zero, List.set_cons_succ]
          refine wpAnyH_ready (rs := [16]) (by kernel_rfl) (by simp) ?_
          refine AllReadyH.cons (o := ⟨none, Op.store 29 (Operand.tmp 64) (Operand.tmp 63), 0, _, _, none⟩) rfl (fun K hK => ?_) AllReadyH.nil
          rw [if_pos (by rfl)]
          refine wp_cellS (wc.setCell ⟨d, 1, none⟩ (.slice za (t + 1) zc)) (by go_simp) ?_
          clear f_o c_o
          have Dd : Keep (Blk (wc.setCell ⟨d, 1, none⟩ (.slice za (t + 1) zc)) d 31 #[.int .i64 (n : Int), .slice za (t + 1) zc]) := ⟨by have h := hDc.out.set 1 (.slice za (t + 1) zc); exact h⟩
          have g_ : Grown wc (wc.setCell ⟨d, 1, none⟩ (.slice za (t + 1) zc)) (fun k => k = d) := Grown.setCell wc d 1 _ fun _ => rfl
          have FIe : Keep (FI w5.heap.size w8 (wc.setCell ⟨d, 1, none⟩ (.slice za (t + 1) zc)) d n (.slice za (t + 1) zc) L ns (t + 1) (ls ++ [(⟨(k : Int), ⟨c.k, c.s, .slice xa xn xc, c.l⟩, .slice pa P_.ps.length pc, P_.ps⟩ : LV)])) := ⟨by
            have hall : ∀ {B T s n' : Nat} {v : Value} {xs : List Value}, wb.ownsRow B T s v n' xs → T ≠ 69 → T ≠ 31 → (wc.setCell ⟨d, 1, none⟩ (.slice za (t + 1) zc)).ownsRow B T s v n' xs := fun h h1 h2 =>
              owns_grown (owns_grown h Gc.out fun k hk e => h1 ((owns_typ h hk).one (hvb.out k e).2)) g_ fun k hk e => by
                subst e
                exact h2 ((owns_typ h hk).one hDb.out.typ)
            have hnx : ∀ x ∈ ls, Own (wc.setCell ⟨d, 1, none⟩ (.slice za (t + 1) zc)) x.c.v x.c.l ∧ (wc.setCell ⟨d, 1, none⟩ (.slice za (t + 1) zc)).ownsRow w5.heap.size 25 32 x.pv x.ps.length (flatH x.ps) := fun x hx =>
              ⟨hall (owns_below (JF.out.rows x hx).1 bb2.out) (by decide) (by decide), hall (owns_below (JF.out.rows x hx).2 bb2.out) (by decide) (by decide)⟩
            refine ⟨(JF.out.gr.next hGc.out fun i hi e => by have := e.2; omega).trans g_, Dd.out, ?_, by rw [List.length_append, JF.out.len]; rfl, fun x hx => ?_, fun j k' x hj hx => ?_⟩
            · rw [List.flatMap_append, show List.flatMap (fun x => (lvA x).toList) [(⟨(k : Int), ⟨c.k, c.s, .slice xa xn xc, c.l⟩, .slice pa P_.ps.length pc, P_.ps⟩ : LV)] = (lvA (⟨(k : Int), ⟨c.k, c.s, .slice xa xn xc, c.l⟩, .slice pa P_.ps.length pc, P_.ps⟩ : LV)).toList from by simp]
              exact owns_grown Oc.out g_ fun k hk e => by
                subst e
                exact absurd ((owns_typ Oc.out hk).one hDc.out.typ) (by decide)
            · rcases List.mem_append.mp hx with hx | hx
              · exact hnx x hx
              · rw [List.mem_singleton.mp hx]
                refine ⟨hall Ob.out (by decide) (by decide), hall (owns_below (owns_grown ?_ JF.out.gr fun k hk e => ?_) bb2.out) (by decide) (by decide)⟩
                · have h := T8.out.2 P_ (List.mem_of_getElem? HP_.out)
                  rw [HPv.out] at h
                  exact h
                · have h := T8.out.2 P_ (List.mem_of_getElem? HP_.out)
                  rw [HPv.out] at h
                  subst e
                  exact absurd ((owns_typ h hk).one D8.out.typ) (by decide)
            · by_cases hjt : j < t
              · exact JF.out.is j k' x hj (by rw [List.getElem?_append_left (by rw [JF.out.len]; exact hjt)] at hx; exact hx)
              · rw [List.getElem?_append_right (by rw [JF.out.len]; omega), JF.out.len] at hx
                obtain rfl : j = t := by
                  have := (List.getElem?_eq_some_iff.mp hx).1
                  simp at this; omega
                rw [Nat.sub_self] at hx
                simp at hx
                subst hx
                obtain rfl : k = k' := Option.some.inj (Hk.out.symm.trans hj)
                exact ⟨rfl, ⟨c, Hc.out, rfl, rfl, rfl⟩, T6.out.is j k P_ Hk.out HP_.out (by rw [hn.out]; exact hkn)⟩⟩
          have hGe : Keep (Grown wr (wc.setCell ⟨d, 1, none⟩ (.slice za (t + 1) zc)) (fun k => k = d ∨ w8.heap.size ≤ k)) := ⟨(hGc.out.mono fun _ _ e => .inr e.2).trans (g_.mono fun _ _ e => .inl e)⟩
          generalize wc.setCell ⟨d, 1, none⟩ (.slice za (t + 1) zc) = wd at *
          clear g_
          refine hK _ _ (hS0.out _ hGe.out) fun hHe => ?_
          clear hK
          simp only [Act.put, List.setIfInBounds_toArray, List.set_cons_zero, List.set_cons_succ]
          refine wpAnyH_done (by kernel_rfl) ?_ _
          refine hK16 _ _ ?_
          refine wp_region_list (WL.out ?_)
          refine WL.val (by kernel_rfl) (.int .i64 ((t + 1 : Nat) : Int)) (by go_simp) ?_
          simp only [Act.put, List.setIfInBounds_toArray, List.set_cons_zero, List.set_cons_succ]
          refine WL.val (by kernel_rfl) (.int .i64 ((t + 1 : Nat) : Int)) (by go_simp) ?_
          simp only [Act.put, List.setIfInBounds_toArray, List.set_cons_zero, List.set_cons_succ]
          refine WL.nil ?_
          refine ⟨⟨t + 1, fun zz => [.slice (some ⟨b, off, none⟩) n cap, .int .i64 kind, .string key, undef, undef, undef, .pointer (some ⟨r, 0, none⟩), .int .i64 0, .int .i64 0, .pointer (some ⟨d, 0, none⟩), .slice (some ⟨gn, 0, none⟩) m cn, .pointer (some ⟨y, 0, none⟩), .slice (some ⟨gp, 0, none⟩) m m, .int .i64 (t : Int), .int .i64 (k : Int), .int .i64 kind, .bool true, .bool false, undef, .slice (some ⟨b, off, none⟩) n cap, .int .i64 0, .int .i64 0, .bool false, undef, undef, .slice (some ⟨b, off, none⟩) n cap, .int .i64 (n : Int), .agg #[.int .i64 (n : Int), .slice none 0 0], .slice (some ⟨b, off, none⟩) n cap, .int .i64 (n : Int), .bool false, undef, .slice (some ⟨b, off, none⟩) n cap, .int .i64 kind, .string key, .slice (some ⟨gn, 0, none⟩) m cn, .tuple #[.agg hh, .slice (some ⟨gp, 0, none⟩) m m], .slice (some ⟨b, off, none⟩) n cap, .slice (some ⟨gn, 0, none⟩) m cn, .tuple #[.agg hh, .slice (some ⟨gp, 0, none⟩) m m], .agg hh, .slice (some ⟨gp, 0, none⟩) m m, .slice (some ⟨gn, 0, none⟩) m cn, .int .i64 (m : Int), .int .i64 ((t + 1 : Nat) : Int), .bool true, .int .i64 (t : Int), .pointer (some ⟨gn, t, none⟩), .int .i64 (k : Int), .pointer (some ⟨d, 1, none⟩), vl, .int .i64 (k : Int), .slice (some ⟨b, off, none⟩) n cap, .int .i64 (k : Int), .pointer (some ⟨b, off + k * 3, none⟩), .agg (cvA c), .agg #[.int .i64 c.k, .string c.s, .slice xa xn xc], .slice (some ⟨gp, 0, none⟩) m m, .int .i64 (t : Int), .pointer (some ⟨gp, t, none⟩), .slice pa P_.ps.length pc, .agg #[.int .i64 (k : Int), .int .i64 c.k, .string c.s, .slice xa xn xc, .slice pa P_.ps.length pc], .slice (some ⟨g, 0, none⟩) 1 1, .slice za (t + 1) zc, .pointer (some ⟨d, 1, none⟩), .int .i64 ((t + 1 : Nat) : Int), undef].getD zz undef, .slice za (t + 1) zc, rfl, by omega, _, FIe.out⟩, ?_⟩
          · simp only [intOf]; show m - (((t + 1 : Nat) : Int)).toNat < m - ((t : Int)).toNat; omega
        · refine wp_bs 29 1 _ rfl #[(0, .agg #[.int .i64 (k : Int), .int .i64 c.k, .string c.s, .slice xa xn xc, .slice pa P_.ps.length pc])] (by simp [Act.eval]) _ _ (bsLf (k : Int) c.k c.s xa xn xc pa P_.ps.length pc wa) ?_
          have bb := below_new wa (.cells #[.int .i64 (k : Int), .int .i64 c.k, .string c.s, .slice xa xn xc, .slice pa P_.ps.length pc] 69)
          have Qb := Keep.mk (Blk.new wa 69 #[.int .i64 (k : Int), .int .i64 c.k, .string c.s, .slice xa xn xc, .slice pa P_.ps.length pc])
          generalize wa.alloc (.cells #[.int .i64 (k : Int), .int .i64 c.k, .string c.s, .slice xa xn xc, .slice pa P_.ps.length pc] 69) = wb at *
          obtain ⟨g, hg⟩ : ∃ z, Keep (z = wa.heap.size) := ⟨_, ⟨rfl⟩⟩
          rw [← hg.out] at Qb ⊢
          have Ob := Keep.mk (owns_below Oa.out bb)
          have bb2 : Keep (Below wr.heap.size wr wb) := ⟨(Below.refl wr.heap.size wr).drew.trans (ba.out.trans (bb.mono ba.out.size))⟩
          have hGb : Keep (Grown wr wb (fun k => k ≠ d ∧ w8.heap.size ≤ k)) := ⟨hGa.out.trans (Grown.below bb)⟩
          clear bb hg
          refine hK _ _ (hS0.out _ (hGb.out.mono fun _ _ e => .inr e.2)) fun hHc => ?_
          clear hK
          simp only [Act.put, List.setIfInBounds_toArray, List.set_cons_zero, List.set_cons_succ]
          refine wpAnyH_ready (rs := [1]) (by kernel_rfl) (by simp) ?_
          refine AllReadyH.cons (o := ⟨some 50, Op.load 29 (Operand.tmp 49), 29, _, _, none⟩) rfl (fun K hK => ?_) AllReadyH.nil
          rw [if_pos (by rfl)]
          have c_ : wb.cell? ⟨d, 1, none⟩ = some vl := hGb.out.cell (JF.out.bd.c 1 rfl) (fun e => e.1 rfl)
          refine wp_val vl (by go_simp) ?_
          clear c_
          refine hK _ _ (hS0.out _ (hGb.out.mono fun _ _ e => .inr e.2)) fun hHl => ?_
          clear hK
          simp only [Act.put, List.setIfInBounds_toArray, List.set_cons_zero, List.set_cons_succ]
          refine wpAnyH_ready (rs := [14]) (by kernel_rfl) (by simp) ?_
          refine AllReadyH.cons (o := ⟨some 63, Op.call { callee := Callee.builtin Builtin.append, args := #[Operand.tmp 50, Operand.tmp 62], argTypes := #[29, 29] }, 29, _, _, none⟩) rfl (fun K hK => ?_) AllReadyH.nil
          rw [if_pos (by rfl)]
          refine wp_appLf (.tmp 50) (.tmp 62) rfl w8.heap.size vl t _ (⟨(k : Int), ⟨c.k, c.s, .slice xa xn xc, c.l⟩, .slice pa P_.ps.length pc, P_.ps⟩ : LV) g rfl rfl (owns_below JF.out.own bb2.out) (blk_range Qb.out) (by simp [lvA, Value.oneCell']) (by have := HM.out; omega) (Nat.le_trans JF.out.gr.size (Nat.le_trans (Nat.le_refl _) bb2.out.size)) ?_
          intro v9 wc k1 k2 k3
          have Oc := Keep.mk k1
          have hvb : Keep (∀ k, vl.ownBlock = some k → w8.heap.size ≤ k ∧ Typ wb k 69) := ⟨fun k hk => ⟨by
            rcases JF.out.own.2 with ⟨h1, _⟩ | ⟨g9, c9, cur9, h1, h2, _⟩
            · rw [h1] at hk; cases hk
            · rw [h1] at hk; injection hk with hk; subst hk; exact h2, owns_typ (owns_below JF.out.own bb2.out) hk⟩⟩
          have Gc : Keep (Grown wb wc (fun k => vl.ownBlock = some k)) := ⟨k2⟩
          have hDb : Keep (Blk wb d 31 #[.int .i64 (n : Int), vl]) := ⟨JF.out.bd.below bb2.out JF.out.bd.lt⟩
          have hGc : Keep (Grown wr wc (fun k => k ≠ d ∧ w8.heap.size ≤ k)) := ⟨hGb.out.next k2 fun i _ e => ⟨fun ed => by subst ed; exact absurd ((hvb.out _ e).2.one hDb.out.typ) (by decide), (hvb.out i e).1⟩⟩
          have hDc : Keep (Blk wc d 31 #[.int .i64 (n : Int), vl]) := ⟨k2.blk hDb.out fun e => absurd ((hvb.out _ e).2.one hDb.out.typ) (by decide)⟩
          have f_o := hDc.out.frozen 1
          have c_o := hDc.out.c 1 (by rfl : (#[.int .i64 (n : Int), vl] : Array Value)[1]? = some vl)
          obtain ⟨za, zc, hv9⟩ := owns_sl k1
          subst hv9
          clear k1 k2 k3
          refine hK _ _ (hS0.out _ (hGc.out.mono fun _ _ e => .inr e.2)) fun hHd => ?_
          clear hK
          simp only [Act.put, List.setIfInBounds_toArray, List.set_cons_zero, List.set_cons_succ]
          refine wpAnyH_take (i := 15) (oi := ⟨some 64, Op.fieldAddr 31 (Operand.tmp 9) 1, 0, _, _, none⟩) (v := .pointer (some ⟨d, 1, none⟩)) rfl (by kernel_rfl) (by kernel_rfl) (by kernel_rfl) (fun _ _ _ h => h) (Or.inl ⟨by rfl, fun w hS => by obtain ⟨hS1, hS2⟩ := hS; go_simp⟩) hHd ?_
          simp only [Act.put, List.setIfInBounds_toArray, List.set_cons_zero, List.set_cons_succ]
          refine wpAnyH_ready (rs := [16]) (by kernel_rfl) (by simp) ?_
          refine AllReadyH.cons (o := ⟨none, Op.store 29 (Operand.tmp 64) (Operand.tmp 63), 0, _, _, none⟩) rfl (fun K hK => ?_) AllReadyH.nil
          rw [if_pos (by rfl)]
          refine wp_cellS (wc.setCell ⟨d, 1, none⟩ (.slice za (t + 1) zc)) (by go_simp) ?_
          clear f_o c_o
          have Dd : Keep (Blk (wc.setCell ⟨d, 1, none⟩ (.slice za (t + 1) zc)) d 31 #[.int .i64 (n : Int), .slice za (t + 1) zc]) := ⟨by have h := hDc.out.set 1 (.slice za (t + 1) zc); exact h⟩
          have g_ : Grown wc (wc.setCell ⟨d, 1, none⟩ (.slice za (t + 1) zc)) (fun k => k = d) := Grown.setCell wc d 1 _ fun _ => rfl
          have FIe : Keep (FI w5.heap.size w8 (wc.setCell ⟨d, 1, none⟩ (.slice za (t + 1) zc)) d n (.slice za (t + 1) zc) L ns (t + 1) (ls ++ [(⟨(k : Int), ⟨c.k, c.s, .slice xa xn xc, c.l⟩, .slice pa P_.ps.length pc, P_.ps⟩ : LV)])) := ⟨by
            have hall : ∀ {B T s n' : Nat} {v : Value} {xs : List Value}, wb.ownsRow B T s v n' xs → T ≠ 69 → T ≠ 31 → (wc.setCell ⟨d, 1, none⟩ (.slice za (t + 1) zc)).ownsRow B T s v n' xs := fun h h1 h2 =>
              owns_grown (owns_grown h Gc.out fun k hk e => h1 ((owns_typ h hk).one (hvb.out k e).2)) g_ fun k hk e => by
                subst e
                exact h2 ((owns_typ h hk).one hDb.out.typ)
            have hnx : ∀ x ∈ ls, Own (wc.setCell ⟨d, 1, none⟩ (.slice za (t + 1) zc)) x.c.v x.c.l ∧ (wc.setCell ⟨d, 1, none⟩ (.slice za (t + 1) zc)).ownsRow w5.heap.size 25 32 x.pv x.ps.length (flatH x.ps) := fun x hx =>
              ⟨hall (owns_below (JF.out.rows x hx).1 bb2.out) (by decide) (by decide), hall (owns_below (JF.out.rows x hx).2 bb2.out) (by decide) (by decide)⟩
            refine ⟨(JF.out.gr.next hGc.out fun i hi e => by have := e.2; omega).trans g_, Dd.out, ?_, by rw [List.length_append, JF.out.len]; rfl, fun x hx => ?_, fun j k' x hj hx => ?_⟩
            · rw [List.flatMap_append, show List.flatMap (fun x => (lvA x).toList) [(⟨(k : Int), ⟨c.k, c.s, .slice xa xn xc, c.l⟩, .slice pa P_.ps.length pc, P_.ps⟩ : LV)] = (lvA (⟨(k : Int), ⟨c.k, c.s, .slice xa xn xc, c.l⟩, .slice pa P_.ps.length pc, P_.ps⟩ : LV)).toList from by simp]
              exact owns_grown Oc.out g_ fun k hk e => by
                subst e
                exact absurd ((owns_typ Oc.out hk).one hDc.out.typ) (by decide)
            · rcases List.mem_append.mp hx with hx | hx
              · exact hnx x hx
              · rw [List.mem_singleton.mp hx]
                refine ⟨hall Ob.out (by decide) (by decide), hall (owns_below (owns_grown ?_ JF.out.gr fun k hk e => ?_) bb2.out) (by decide) (by decide)⟩
                · have h := T8.out.2 P_ (List.mem_of_getElem? HP_.out)
                  rw [HPv.out] at h
                  exact h
                · have h := T8.out.2 P_ (List.mem_of_getElem? HP_.out)
                  rw [HPv.out] at h
                  subst e
                  exact absurd ((owns_typ h hk).one D8.out.typ) (by decide)
            · by_cases hjt : j < t
              · exact JF.out.is j k' x hj (by rw [List.getElem?_append_left (by rw [JF.out.len]; exact hjt)] at hx; exact hx)
              · rw [List.getElem?_append_right (by rw [JF.out.len]; omega), JF.out.len] at hx
                obtain rfl : j = t := by
                  have := (List.getElem?_eq_some_iff.mp hx).1
                  simp at this; omega
                rw [Nat.sub_self] at hx
                simp at hx
                subst hx
                obtain rfl : k = k' := Option.some.inj (Hk.out.symm.trans hj)
                exact ⟨rfl, ⟨c, Hc.out, rfl, rfl, rfl⟩, T6.out.is j k P_ Hk.out HP_.out (by rw [hn.out]; exact hkn)⟩⟩
          have hGe : Keep (Grown wr (wc.setCell ⟨d, 1, none⟩ (.slice za (t + 1) zc)) (fun k => k = d ∨ w8.heap.size ≤ k)) := ⟨(hGc.out.mono fun _ _ e => .inr e.2).trans (g_.mono fun _ _ e => .inl e)⟩
          generalize wc.setCell ⟨d, 1, none⟩ (.slice za (t + 1) zc) = wd at *
          clear g_
          refine hK _ _ (hS0.out _ hGe.out) fun hHe => ?_
          clear hK
          simp only [Act.put, List.setIfInBounds_toArray, List.set_cons_zero, List.set_cons_succ]
          refine wpAnyH_done (by kernel_rfl) ?_ _
          refine hK16 _ _ ?_
          refine wp_region_list (WL.out ?_)
          refine WL.val (by kernel_rfl) (.int .i64 ((t + 1 : Nat) : Int)) (by go_simp) ?_
          simp only [Act.put, List.setIfInBounds_toArray, List.set_cons_zero, List.set_cons_succ]
          refine WL.val (by kernel_rfl) (.int .i64 ((t + 1 : Nat) : Int)) (by go_simp) ?_
          simp only [Act.put, List.setIfInBounds_toArray, List.set_cons_zero, List.set_cons_succ]
          refine WL.nil ?_
          refine ⟨⟨t + 1, fun zz => [.slice (some ⟨b, off, none⟩) n cap, .int .i64 kind, .string key, undef, undef, undef, .pointer (some ⟨r, 0, none⟩), .int .i64 0, .int .i64 0, .pointer (some ⟨d, 0, none⟩), .slice (some ⟨gn, 0, none⟩) m cn, .pointer (some ⟨y, 0, none⟩), .slice (some ⟨gp, 0, none⟩) m m, .int .i64 (t : Int), .int .i64 (k : Int), .int .i64 kind, .bool true, .bool false, undef, .slice (some ⟨b, off, none⟩) n cap, .int .i64 0, .int .i64 0, .bool false, undef, undef, .slice (some ⟨b, off, none⟩) n cap, .int .i64 (n : Int), .agg #[.int .i64 (n : Int), .slice none 0 0], .slice (some ⟨b, off, none⟩) n cap, .int .i64 (n : Int), .bool false, undef, .slice (some ⟨b, off, none⟩) n cap, .int .i64 kind, .string key, .slice (some ⟨gn, 0, none⟩) m cn, .tuple #[.agg hh, .slice (some ⟨gp, 0, none⟩) m m], .slice (some ⟨b, off, none⟩) n cap, .slice (some ⟨gn, 0, none⟩) m cn, .tuple #[.agg hh, .slice (some ⟨gp, 0, none⟩) m m], .agg hh, .slice (some ⟨gp, 0, none⟩) m m, .slice (some ⟨gn, 0, none⟩) m cn, .int .i64 (m : Int), .int .i64 ((t + 1 : Nat) : Int), .bool true, .int .i64 (t : Int), .pointer (some ⟨gn, t, none⟩), .int .i64 (k : Int), .pointer (some ⟨d, 1, none⟩), vl, .int .i64 (k : Int), .slice (some ⟨b, off, none⟩) n cap, .int .i64 (k : Int), .pointer (some ⟨b, off + k * 3, none⟩), .agg (cvA c), .agg #[.int .i64 c.k, .string c.s, .slice xa xn xc], .slice (some ⟨gp, 0, none⟩) m m, .int .i64 (t : Int), .pointer (some ⟨gp, t, none⟩), .slice pa P_.ps.length pc, .agg #[.int .i64 (k : Int), .int .i64 c.k, .string c.s, .slice xa xn xc, .slice pa P_.ps.length pc], .slice (some ⟨g, 0, none⟩) 1 1, .slice za (t + 1) zc, .pointer (some ⟨d, 1, none⟩), .int .i64 ((t + 1 : Nat) : Int), undef].getD zz undef, .slice za (t + 1) zc, rfl, by omega, _, FIe.out⟩, ?_⟩
          · simp only [intOf]; show m - (((t + 1 : Nat) : Int)).toNat < m - ((t : Int)).toNat; omega
  · have htm' : ¬ (t : Int) < (m : Int) := by omega
    have htm2 : t = m := by omega
    subst htm2
    obtain ⟨va, vc, hvl⟩ := owns_sl JF.out.own
    subst hvl
    have Dr := Keep.mk JF.out.bd
    have Rr := Keep.mk (JF.out.gr.blk R8.out hrd.out)
    have Br : Keep (Below w.heap.size w wr) := ⟨B8.out.trans (JF.out.gr.to_below (fun k hk e => by have := gd.out; omega) B8.out.size)⟩
    refine wp_seq_k fun K18 hK18 => ?_
    refine wp_region_list (WL.out ?_)
    refine WL.val (by kernel_rfl) (.bool false) (by go_simp) ?_
    simp only [Act.put, List.setIfInBounds_toArray, List.set_cons_zero, List.set_cons_succ]
    refine WL.nil ?_
    refine hK18 _ _ ?_
    refine wp_seq_k fun K19 hK19 => ?_
    refine wp_cond_false rfl ?_
    refine wp_exit ?_
    refine hK12 _ _ ?_
    refine wp_seq_k fun K20 hK20 => ?_
    refine wp_region_list (WL.out ?_)
    refine WL.row (by kernel_rfl) 31 (.tmp 9) rfl d rfl 31 #[.int .i64 (n : Int), .slice va t vc] _ Dr.out Try.underlying31 rfl (by rfl) ?_
    simp only [Act.put, List.setIfInBounds_toArray, List.set_cons_zero, List.set_cons_succ]
    refine WL.storeR (by kernel_rfl) 31 (.tmp 6) (.tmp 66) rfl r #[.int .i64 (n : Int), .slice va t vc] rfl rfl 31 #[.int .i64 0, .slice none 0 0] Rr.out (by rfl) rfl (by simp [Value.oneCell']) ?_
    have R9 := Keep.mk (Rr.out.setRow #[.int .i64 (n : Int), .slice va t vc])
    have B9 : Keep (Below w.heap.size w (wr.setRow r #[.int .i64 (n : Int), .slice va t vc])) := ⟨below_setRow Br.out gr.out _⟩
    have g_ : Grown wr (wr.setRow r #[.int .i64 (n : Int), .slice va t vc]) (fun k => k = r) := Grown.setRow _ r #[.int .i64 (n : Int), .slice va t vc] fun _ => rfl
    have hall : ∀ {B T s n' : Nat} {v : Value} {xs : List Value}, wr.ownsRow B T s v n' xs → T ≠ 31 → (wr.setRow r #[.int .i64 (n : Int), .slice va t vc]).ownsRow B T s v n' xs := fun h h2 => owns_grown h g_ fun k hk e => by
      subst e
      exact h2 ((owns_typ h hk).one Rr.out.typ)
    have LS9 : Keep (LsV (wr.setRow r #[.int .i64 (n : Int), .slice va t vc]).heap.size (wr.setRow r #[.int .i64 (n : Int), .slice va t vc]) (.slice va t vc) ls) := ⟨lsv_owns (B := w8.heap.size) (B' := w5.heap.size) (by rw [JF.out.len]; exact hall JF.out.own (by decide)) fun x hx => ⟨hall (JF.out.rows x hx).1 (by decide), hall (JF.out.rows x hx).2 (by decide)⟩⟩
    clear hall g_
    generalize wr.setRow r #[.int .i64 (n : Int), .slice va t vc] = w9 at *
    simp only [Act.put]
    refine WL.val (by kernel_rfl) (.int .i64 0) (by go_simp) ?_
    simp only [Act.put, List.setIfInBounds_toArray, List.set_cons_zero, List.set_cons_succ]
    refine WL.nil ?_
    refine hK20 _ _ ?_
    refine wp_ret ?_
    try simp only [Exit.inBlock, Exit.then]
    refine bodyPost_ret (v := .tuple #[.agg #[.int .i64 (n : Int), .slice va t vc], .int .i64 0]) (results_cell_row2 Try.results12 _ _ r 31 _ (0, 0) _ _ rfl rfl R9.out Try.underlying31 rfl (by rfl)) rfl ⟨(n : Int), .slice va t vc, ls, 0, rfl, LS9.out, B9.out, (fun h => by rw [hkm] at h; cases h), (fun _ h => absurd hwi.out h), (fun _ _ => ⟨by rw [hn.out], rfl, (fun h => by rw [h] at hn; have := hn.out; simp at this; omega), fun _ => ⟨by rw [hn.out, hns.out, hm.out, JF.out.len], by rw [hn.out, hns.out]; exact JF.out.is⟩⟩)⟩

theorem aheI_trans {a b c : Int} {s t r : ByteArray} (h : aheI a s b t = true) (k : aheI b t c r = true) : aheI a s c r = true := by
  unfold aheI at *
  simp only [Bool.or_eq_true, Bool.and_eq_true, decide_eq_true_eq] at *
  rcases h with h | ⟨h1, h2⟩
  · rcases k with k | ⟨k1, k2⟩
    · exact .inl (by omega)
    · exact .inl (by omega)
  · rcases k with k | ⟨k1, k2⟩
    · exact .inl (by omega)
    · exact .inr ⟨by omega, RtP.bl_trans _ _ _ h2 k2⟩
theorem okO_of {L : List CV} (h : wrongI L = 0) : okO L = true := by
  unfold wrongI at h
  cases hk : okK L
  · rw [hk] at h; cases h
  · cases ho : okO L
    · rw [hk, ho] at h; cases h
    · rfl
theorem ord_of {L : List CV} (h : wrongI L = 0) : ∀ (m i : Nat) (c d : CV), L[i]? = some c → L[i + m + 1]? = some d → aheI c.k c.s d.k d.s = true
  | 0, i, c, d, hc, hd => by
    cases ha : aheI c.k c.s d.k d.s
    · have := okO_no hc hd ha; rw [okO_of h] at this; cases this
    · rfl
  | m + 1, i, c, d, hc, hd => by
    have hl : i + m + 1 < L.length := by have := (List.getElem?_eq_some_iff.mp hd).1; omega
    have h1 := ord_of h m i c L[i + m + 1] hc (List.getElem?_eq_getElem hl)
    have h2 : aheI L[i + m + 1].k L[i + m + 1].s d.k d.s = true := by
      cases ha : aheI L[i + m + 1].k L[i + m + 1].s d.k d.s
      · have := okO_no (List.getElem?_eq_getElem hl) hd ha; rw [okO_of h] at this; cases this
      · rfl
    exact aheI_trans h1 h2
theorem at_of {L : List CV} (kind : Int) (key : ByteArray) (h : wrongI L = 0) : ∃ at_, at_ ≤ L.length ∧ ∀ (i : Nat) (c : CV), L[i]? = some c → (stI c.k c.s kind key < 0 ↔ i < at_) := by
  have main : ∀ m, m ≤ L.length → ∃ at_, at_ ≤ m ∧ ∀ (i : Nat) (c : CV), i < m → L[i]? = some c → (stI c.k c.s kind key < 0 ↔ i < at_) := by
    intro m
    induction m with
    | zero => intro _; exact ⟨0, by omega, fun i c hi _ => by omega⟩
    | succ m ih =>
      intro hm
      obtain ⟨a, ha, hi⟩ := ih (by omega)
      by_cases hc : stI L[m].k L[m].s kind key < 0
      · refine ⟨m + 1, by omega, fun i c him hic => ⟨fun _ => him, fun _ => ?_⟩⟩
        by_cases e : i = m
        · subst e
          rw [List.getElem?_eq_getElem (by omega)] at hic
          injection hic with hic
          rw [← hic]; exact hc
        · rw [stI_lt] at hc ⊢
          exact aheI_trans (ord_of h (m - i - 1) i c L[m] hic (by rw [show i + (m - i - 1) + 1 = m from by omega]; exact List.getElem?_eq_getElem (by omega))) hc
      · refine ⟨a, by omega, fun i c him hic => ?_⟩
        by_cases e : i = m
        · subst e
          rw [List.getElem?_eq_getElem (by omega)] at hic
          injection hic with hic
          rw [← hic]
          exact ⟨fun z => absurd z hc, fun z => by omega⟩
        · exact hi i c (by omega) hic
  obtain ⟨a, h1, h2⟩ := main L.length (Nat.le_refl _)
  exact ⟨a, h1, fun i c hc => h2 i c (List.getElem?_eq_some_iff.mp hc).1 hc⟩
theorem fnd_mem {n a : Nat} {b : Bool} (ha : a ≤ n) (hb : b = true → a < n) : ∀ k ∈ fnd n a b, k < n := by
  intro k hk
  unfold fnd at hk
  cases b
  · simp only [Bool.false_eq_true, if_false, List.mem_append] at hk
    rcases hk with hk | hk
    · split at hk
      · simp at hk; omega
      · simp at hk
    · split at hk
      · simp at hk; omega
      · simp at hk
  · simp at hk
    have := hb rfl
    omega
theorem fnd_len {n a : Nat} {b : Bool} (hn : 1 ≤ n) (ha : a ≤ n) : 1 ≤ (fnd n a b).length ∧ (fnd n a b).length ≤ 2 := by
  unfold fnd
  cases b
  · by_cases h0 : 0 < a <;> by_cases h1 : a < n <;> simp [h0, h1]
    omega
  · simp
theorem fndB_lt {L : List CV} {a : Nat} {kind : Int} {key : ByteArray} (h : fndB L a kind key = true) : a < L.length := by
  unfold fndB at h
  split at h
  · rename_i e; exact (List.getElem?_eq_some_iff.mp e).1
  · cases h
theorem fd_any (v : Value) (L : List CV) (kind : Int) (key : ByteArray) (at_ : Nat) (w : World) (hC : CsV w.heap.size w v L) (hS : Sml L) (hN : L.length ≤ 3600000000000) (ha : at_ ≤ L.length) (hAt : wrongI L = 0 → ∀ (i : Nat) (c : CV), L[i]? = some c → (stI c.k c.s kind key < 0 ↔ i < at_)) : Calls Try.prog 12 #[v, .int .i64 kind, .string key] w (FdP L kind at_ key w) := by
  have hC0 := hC
  obtain ⟨la, cap, rfl⟩ : ∃ la cap, v = .slice la L.length cap := by
    rcases hC with ⟨a, c, rfl, rfl⟩ | ⟨b, off, cap, rfl, _⟩
    · exact ⟨a, c, rfl⟩
    · exact ⟨_, cap, rfl⟩
  cases hk : kmay kind
  · exact fd_kind la _ cap at_ L kind key w hk
  · by_cases hW : wrongI L = 0
    · by_cases h1 : 1 ≤ L.length
      · rcases hC with ⟨a, c, e, rfl⟩ | ⟨b, off, cap', e, h2, h3⟩
        · simp at h1
        · injection e with e1 e2 e3
          subst e1 e3
          have hl := fnd_len (b := fndB L at_ kind key) h1 ha
          exact fd_some b off _ cap at_ _ L _ kind key _ w hk ⟨hW⟩ ⟨rfl⟩ h1 ⟨hN⟩ ⟨h3⟩ ⟨hC0⟩ ⟨fit_of (okK_of hW) hS⟩ ⟨rfl⟩ ⟨ha⟩ ⟨hAt hW⟩ ⟨rfl⟩ ⟨rfl⟩ hl.1 ⟨hl.2⟩ ⟨fnd_mem ha fndB_lt⟩ ⟨fun c hc => by have := hS c hc; omega⟩
      · have : L = [] := List.eq_nil_of_length_eq_zero (by omega)
        subst this
        exact fd_none la cap at_ kind key w hk ⟨hC0⟩
    · exact fd_wrong la _ cap at_ L kind key w _ hk ⟨rfl⟩ hW ⟨hC0⟩ ⟨by omega⟩

end Go.Proofs.Ytjklmkeedhgncaa
