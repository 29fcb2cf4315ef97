import Derived.Test.YtbkboebinhafhaaNum
namespace Go.Proofs.Ytbkboebinhafhaa
open Go.RowKit

/-- An Out at p whose list is v: the bytes l were laid. -/
structure OutAt (w : World) (p : Nat) (v : Value) (l : List Int) : Prop where
  blk : Blk w p 75 #[v]
  own : Own w v l
/-- The blocks of an Out. -/
def OF (p : Nat) (v : Value) : Nat → Prop := fun k => k = p ∨ v.ownBlock = some k
/-- What a call that lays m leaves. -/
def OutPost (p : Nat) (v : Value) (l : List Int) (w : World) (e : Ending) (w' : World) : Prop :=
  e = .returned (.tuple #[]) ∧ ∃ v', OutAt w' p v' l ∧ Moved w v v' ∧ Grown w w' (OF p v)
theorem OutAt.grown {w w' : World} {p : Nat} {v : Value} {l : List Int} {S : Nat → Prop} (h : OutAt w p v l) (hg : Grown w w' S) (hs : ∀ k, OF p v k → ¬ S k) : OutAt w' p v l :=
  ⟨hg.blk h.blk (hs p (.inl rfl)), h.own.grown hg fun k hk => hs k (.inr hk)⟩
theorem OutAt.lt {w : World} {p : Nat} {v : Value} {l : List Int} (h : OutAt w p v l) {k : Nat} (hk : OF p v k) : k < w.heap.size := by
  rcases hk with rfl | hk
  · exact h.blk.lt
  · exact h.own.lt k hk
theorem OutPost.trans {p : Nat} {v v1 : Value} {l : List Int} {w w1 w2 : World} {e : Ending} (hm : Moved w v v1) (hg : Grown w w1 (OF p v)) (h : OutPost p v1 l w1 e w2) : OutPost p v l w e w2 := by
  obtain ⟨he, v2, h1, h2, h3⟩ := h
  refine ⟨he, v2, h1, hm.trans hg.size h2, hg.next h3 ?_⟩
  rintro i hi (rfl | h)
  · exact .inl rfl
  · exact .inr (hm.old hi h)

/-- The list of an Out grown, and stored. -/
theorem OutAt.stored {w w1 : World} {p : Nat} {v v' : Value} {l m : List Int} (h : OutAt w p v l) (ha : AppPost w v m v' w1) : OutPost p v m w (.returned (.tuple #[])) (w1.setCell ⟨p, 0, none⟩ v') := by
  have hne := h.own.ne h.blk (by decide)
  have hp1 : Blk w1 p 75 #[v] := ha.grown.blk h.blk hne
  have hne1 : v'.ownBlock ≠ some p := ha.1.ne hp1 (by decide)
  refine ⟨rfl, v', ⟨hp1.set 0 v', ha.1.grown (Grown.setCell w1 p 0 v' (S := fun k => k = p) fun _ => rfl) fun k hk e => hne1 (by rw [hk, e])⟩, ha.moved, ?_⟩
  exact (ha.grown.mono fun i _ h => Or.inr h).next (Grown.setCell w1 p 0 v' (S := fun k => k = p) fun _ => rfl) fun i _ e => .inl e

theorem Own.sl {w : World} {v : Value} {l : List Int} (h : Own w v l) : ∃ a n c, v = .slice a n c := by
  rcases h.form with ⟨rfl, _⟩ | ⟨g, cap, cur, rfl, _⟩
  · exact ⟨_, _, _, rfl⟩
  · exact ⟨_, _, _, rfl⟩
theorem OutAt.box {w : World} {p : Nat} {v : Value} {l : List Int} (h : OutAt w p v l) (o : Obj) : OutAt (w.alloc o) p v l := h.grown (Grown.alloc w o fun _ => False) fun _ _ h => h
theorem OutPost.box {p : Nat} {v : Value} {l : List Int} {w w2 : World} {e : Ending} {o : Obj} (h : OutPost p v l (w.alloc o) e w2) : OutPost p v l w e w2 :=
  h.trans (Moved.refl _ _) (Grown.alloc w o _)

set_option maxRecDepth 8000 in
set_option maxHeartbeats 400000 in
theorem obyte_any (p : Nat) (v : Value) (l : List Int) (c : Int) (w : World) (h : OutAt w p v l) (hb : (l ++ [c]).length ≤ 200000000000000) :
    Calls Try.prog 21 #[ptr p, .int .u8 c] w (OutPost p v (l ++ [c]) w) := by
  have hO1 := h.box (.cells #[.int .u8 c] 5)
  have HO : Keep (OutAt (w.alloc (.cells #[.int .u8 c] 5)) p v l) := ⟨hO1⟩
  have c0 : w.cell? ⟨p, 0, none⟩ = some v := by rw [h.blk.cell]; rfl
  have HB : Keep (l.length + [c].length ≤ 200000000000000) := ⟨by simpa using hb⟩
  clear h hO1 hb
  go_enter Try.func21, Try.ntmps21
  go_wp2_with (first | (at_builtin; refine wpList_app rfl (.tmp 8) (.tmp 10) rfl v (.slice (some ⟨w.heap.size, 0, none⟩) 1 1) l [c] rfl rfl HO.out.own (row_one w c) HB.out ?_; intro v' w' hp; refine Hid.out ?_))
  refine hid_in ?_
  obtain ⟨a1, n1, k1, rfl⟩ := hp.1.sl
  have HP : Keep (AppPost (w.alloc (.cells #[.int .u8 c] 5)) v (l ++ [c]) (.slice a1 n1 k1) w') := ⟨hp⟩
  have hp1 : Blk w' p 75 #[v] := hp.grown.blk HO.out.blk (HO.out.own.ne HO.out.blk (by decide))
  have c1 : w'.cell? ⟨p, 0, none⟩ = some v := by rw [hp1.cell]; rfl
  have f1 : w'.frozen? ⟨p, 0, none⟩ = false := hp1.frozen 0
  clear hp hp1 c0
  go_wp2
  go_end0
  exact (HO.out.stored HP.out).box
set_option maxRecDepth 8000 in
set_option maxHeartbeats 400000 in
theorem oraw_any (p : Nat) (v vx : Value) (l m : List Int) (w : World) (h : OutAt w p v l) (hx : RowAt w vx m) (hb : (l ++ m).length ≤ 200000000000000) :
    Calls Try.prog 17 #[ptr p, vx] w (OutPost p v (l ++ m) w) := by
  have HO : Keep (OutAt w p v l) := ⟨h⟩
  have HX : Keep (RowAt w vx m) := ⟨hx⟩
  have c0 : w.cell? ⟨p, 0, none⟩ = some v := by rw [h.blk.cell]; rfl
  have HB : Keep (l.length + m.length ≤ 200000000000000) := ⟨by simpa using hb⟩
  clear h hx hb
  go_enter Try.func17, Try.ntmps17
  go_wp2_with (first | (at_builtin; refine wpList_app rfl (.tmp 8) (.tmp 9) rfl v vx l m rfl rfl HO.out.own HX.out HB.out ?_; intro v' w' hp; refine Hid.out ?_))
  refine hid_in ?_
  obtain ⟨a1, n1, k1, rfl⟩ := hp.1.sl
  have HP : Keep (AppPost w v (l ++ m) (.slice a1 n1 k1) w') := ⟨hp⟩
  have hp1 : Blk w' p 75 #[v] := hp.grown.blk HO.out.blk (HO.out.own.ne HO.out.blk (by decide))
  have c1 : w'.cell? ⟨p, 0, none⟩ = some v := by rw [hp1.cell]; rfl
  have f1 : w'.frozen? ⟨p, 0, none⟩ = false := hp1.frozen 0
  clear hp hp1 c0
  go_wp2
  go_end0
  exact HO.out.stored HP.out

set_option maxRecDepth 8000 in
set_option maxHeartbeats 1000000 in
theorem onum_any (p : Nat) (v : Value) (l : List Int) (x : Nat) (w : World) (h : OutAt w p v l) (hx : x < 18446744073709551616) (hb : (l ++ numL x).length ≤ 200000000000000) :
    Calls Try.prog 37 #[ptr p, .int .u64 (x : Int)] w (OutPost p v (l ++ numL x) w) := by
  have HO : Keep (OutAt w p v l) := ⟨h⟩
  have HB : Keep ((l ++ numL x).length ≤ 200000000000000) := ⟨hb⟩
  have HX : Keep (x < 18446744073709551616) := ⟨hx⟩
  clear h hx hb
  go_enter Try.func37, Try.ntmps37
  go_wp2
  go_loopw [1] (fun i wr => ∃ (y : Nat) (v1 : Value) (l1 : List Int), i = .int .u64 (y : Int) ∧ Keep (y < 18446744073709551616) ∧ OutAt wr p v1 l1 ∧ Keep (l1 ++ numL y = l ++ numL x) ∧ Moved w v v1 ∧ Grown w wr (OF p v)) (fun i _ => (intOf i).toNat)
  case atStart => exact ⟨x, v, l, rfl, HX, HO.out, ⟨rfl⟩, Moved.refl _ _, Grown.refl _ _⟩
  case round =>
    obtain ⟨y, v1, l1, rfl, hy, hO1, hl1, hm1, hg1⟩ := hrel
    by_cases h128 : 128 ≤ y
    · have h128' : (128 : Int) ≤ (y : Int) := by omega
      have hs := numL_step y h128 hy.out
      have HS : Keep (numL y = ((y % 128 + 128 : Nat) : Int) :: numL (y / 128)) := ⟨hs⟩
      have hlen : Keep ((l1 ++ [(y : Int) % 128 + 128]).length ≤ 200000000000000) := ⟨by
        have e := congrArg List.length hl1.out
        have := HB.out
        rw [HS.out] at e
        simp only [List.length_append, List.length_cons, List.length_nil] at e this ⊢
        omega⟩
      clear hs
      go_wp2_with fail
      refine (obyte_any p v1 l1 _ wr hO1 hlen.out).mono ?_
      rintro e w2 ⟨rfl, v2, hO2, hm2, hg2⟩
      obtain ⟨z, hz⟩ : ∃ z, Keep (y / 128 = z) := ⟨_, ⟨rfl⟩⟩
      have hz1 : (y : Int) / 128 = (z : Int) := by have := hz.out; omega
      clear hO1
      go_wp2
      go_roundw
      case rel =>
        refine ⟨z, v2, l1 ++ [(y : Int) % 128 + 128], rfl, ⟨by have := hy.out; have := hz.out; omega⟩, hO2, ⟨?_⟩, hm1.trans hg1.size hm2, hg1.next hg2 ?_⟩
        · rw [← hl1.out, HS.out, hz.out, List.append_assoc]
          simp
        · rintro i hi (rfl | h)
          · exact .inl rfl
          · exact .inr (hm1.old hi h)
      case measure => simp only [intOf]; have := hz.out; omega
    · have h128' : ¬ (128 : Int) ≤ (y : Int) := by omega
      have hs := numL_small y (by omega)
      have HL : Keep (l1 ++ [(y : Int)] = l ++ numL x) := ⟨by rw [← hl1.out, hs]⟩
      have hlen : Keep ((l1 ++ [(y : Int)]).length ≤ 200000000000000) := ⟨by rw [HL.out]; exact HB.out⟩
      clear hs
      go_wp2_with fail
      refine (obyte_any p v1 l1 _ wr hO1 hlen.out).mono ?_
      intro e w2 hpost
      rw [HL.out] at hpost
      have hpost2 := hpost.trans hm1 hg1
      obtain ⟨rfl, hrest⟩ := hpost2
      have HR : Keep (∃ v', OutAt w2 p v' (l ++ numL x) ∧ Moved w v v' ∧ Grown w w2 (OF p v)) := ⟨hrest⟩
      clear hrest hpost hO1
      go_wp2
      go_end0
      exact ⟨rfl, HR.out⟩

/-- The number whose form a signed number has. -/
def zig (x : Int) : Nat := if 0 ≤ x then (2 * x).toNat else (-2 * x - 1).toNat
theorem zig_lt (x : Int) (h1 : -9223372036854775808 ≤ x) (h2 : x ≤ 9223372036854775807) : zig x < 18446744073709551616 := by
  unfold zig; split <;> omega
theorem zig_pos (x : Int) (h1 : 0 ≤ x) (h2 : x ≤ 9223372036854775807) : IntKind.u64.wrap (2 * IntKind.u64.wrap x) = (zig x : Int) := by
  simp only [IntKind.wrap_u64]; unfold zig; rw [if_pos h1]; omega
theorem zig_neg (x : Int) (h1 : x < 0) (h2 : -9223372036854775808 ≤ x) : IntKind.u64.wrap (IntKind.u64.wrap (-IntKind.u64.wrap (2 * IntKind.u64.wrap x)) - 1) = (zig x : Int) := by
  simp only [IntKind.wrap_u64]; unfold zig; rw [if_neg (by omega)]; omega

set_option maxRecDepth 8000 in
set_option maxHeartbeats 1000000 in
theorem osigned_any (p : Nat) (v : Value) (l : List Int) (x : Int) (w : World) (h : OutAt w p v l) (h1 : -9223372036854775808 ≤ x) (h2 : x ≤ 9223372036854775807) (hb : (l ++ numL (zig x)).length ≤ 200000000000000) :
    Calls Try.prog 75 #[ptr p, .int .i64 x] w (OutPost p v (l ++ numL (zig x)) w) := by
  have HO : Keep (OutAt w p v l) := ⟨h⟩
  have HB : Keep ((l ++ numL (zig x)).length ≤ 200000000000000) := ⟨hb⟩
  have HZ : Keep (zig x < 18446744073709551616) := ⟨zig_lt x h1 h2⟩
  by_cases hx : x < 0
  · have HN : Keep (IntKind.u64.wrap (IntKind.u64.wrap (-IntKind.u64.wrap (2 * IntKind.u64.wrap x)) - 1) = (zig x : Int)) := ⟨zig_neg x hx h1⟩
    clear h h1 h2 hb
    go_enter Try.func75, Try.ntmps75
    go_wp2_with fail
    rw [HN.out]
    refine (onum_any p v l (zig x) w HO.out HZ.out HB.out).mono ?_
    rintro e w2 ⟨rfl, hrest⟩
    have HR := Keep.mk hrest
    clear hrest
    go_wp2
    go_end0
    exact ⟨rfl, HR.out⟩
  · have HN : Keep (IntKind.u64.wrap (2 * IntKind.u64.wrap x) = (zig x : Int)) := ⟨zig_pos x (by omega) h2⟩
    clear h h1 h2 hb
    go_enter Try.func75, Try.ntmps75
    go_wp2_with fail
    rw [HN.out]
    refine (onum_any p v l (zig x) w HO.out HZ.out HB.out).mono ?_
    rintro e w2 ⟨rfl, hrest⟩
    have HR := Keep.mk hrest
    clear hrest
    go_wp2
    go_end0
    exact ⟨rfl, HR.out⟩

/-- The form of bytes. -/
def bform (m : List Int) : List Int := numL m.length ++ m
theorem wrap64_len (n : Nat) (h : n ≤ 200000000000000) : IntKind.u64.wrap (n : Int) = n := by rw [IntKind.wrap_u64]; omega

/-- A text's bytes. -/
def lst (s : ByteArray) : List Int := s.data.toList.map fun b => (b.toNat : Int)
theorem lst_len (s : ByteArray) : (lst s).length = s.size := by simp [lst]
theorem lst_cells (s : ByteArray) : Lib.strCells s = bv (lst s) := by simp [Lib.strCells, bv, lst]
theorem lst_byts (s : ByteArray) : Byts (lst s) := fun c hc => by
  simp [lst] at hc
  obtain ⟨b, _, rfl⟩ := hc
  have := b.toNat_lt
  omega
theorem lst_nums {l : List Int} (h : Byts l) : lst (strOfNums l) = l := by
  unfold lst
  rw [strOfNums_data, List.map_map]
  conv => rhs; rw [← List.map_id l]
  apply List.map_congr_left
  intro c hc
  have := h c hc
  simp
  omega
theorem nums_lst (s : ByteArray) : strOfNums (lst s) = s := by
  apply ByteArray.ext
  apply Array.ext'
  show (strOfNums (lst s)).data.toList = _
  rw [strOfNums_data]
  unfold lst
  rw [List.map_map]
  conv => rhs; rw [← List.map_id s.data.toList]
  apply List.map_congr_left
  intro b _
  simp

theorem run_app_string (w : World) (ty : TypeId) (v : Value) (l : List Int) (hown : Own w v l) (s : ByteArray) (hb : l.length + s.size ≤ 200000000000000) (hs : s.size ≤ 140737488355328) :
    ∃ v' w', (Builtin.append_ #[36, 9] ty #[v, .string s]).run Try.prog w = .ok v' w' ∧ AppPost w v (l ++ lst s) v' w' := by
  obtain ⟨i, hi, hzz⟩ := Option.map_eq_some_iff.1 Try.info5
  simp only [Prod.mk.injEq] at hzz
  obtain ⟨hz, hsz, hby⟩ := hzz
  have h63 : l.length + s.size ≤ maxLen := by unfold maxLen; omega
  by_cases hsm : l.length + s.size ≤ 140737488355328
  · obtain ⟨v', w', hr, h1, h2, h3⟩ := Lib.run_append_own_string (P := Try.prog) w 0 36 9 ty 5 i Try.underlying36 Try.underlying9 hi hz hsz hby v l.length (bv l) hown s h63 hsm (Nat.zero_le _)
    have hO : Own w' v' (l ++ lst s) := by unfold Own; rw [List.length_append, bv_app, lst_len, ← lst_cells]; exact h1
    refine ⟨v', w', hr, hO, ?_⟩
    rcases hown.form with ⟨rfl, rfl⟩ | ⟨g, cap, cur, rfl, hg, hnc, hcm, hcs, htake⟩
    · by_cases h0 : s.size = 0
      · have e := h3.2 ⟨rfl, h0⟩
        subst e
        exact .inl ⟨rfl, Grown.of h2 fun k _ e => e⟩
      · have hr2 := run_append_nil_string (P := Try.prog) w 36 9 ty 5 i (.int .u8 0) Try.underlying36 Try.underlying9 hi hz s (by omega) (by omega) (by rw [hby]; omega)
        have e := hr.symm.trans hr2
        injection e with e1 e2
        subst e1
        exact .inr ⟨rfl, h2.os, h2.tape, h2.output, h2.size, fun k hk => h2.block k hk (by simp [Value.ownBlock])⟩
    · by_cases hroom : l.length + s.size ≤ cap
      · have hr2 := Lib.run_append_room_string (P := Try.prog) w 36 9 ty 5 i Try.underlying36 Try.underlying9 hi hsz g l.length cap cur hg s hroom (by omega)
        have e := hr.symm.trans hr2
        injection e with e1 e2
        subst e1
        exact .inl ⟨rfl, Grown.of h2 fun k _ e => e⟩
      · have holds : ∀ j u, (bv l)[j]? = some u → w.cell? ((⟨g, 0, none⟩ : Addr).add j) = some u := World.ownsRow.cells (g := g) hown rfl
        have hr2 := Lib.run_append_grow_string (P := Try.prog) w 36 9 ty 5 i (.int .u8 0) Try.underlying36 Try.underlying9 hi hz ⟨g, 0, none⟩ l.length cap (bv l) (by rw [bv_len, hsz]; omega) holds s (by omega) (by omega) (by rw [hby]; exact growslice_fits (by omega) (by omega))
        have e := hr.symm.trans hr2
        injection e with e1 e2
        subst e1 e2
        exact .inr ⟨rfl, ⟨rfl, rfl, rfl, by simp, fun k hk => Below.heap_alloc w.drew _ k hk⟩⟩
  · rcases hown.form with ⟨rfl, rfl⟩ | ⟨g, cap, cur, rfl, hg, hnc, hcm, hcs, htake⟩
    · simp at hsm; omega
    · have hll : (l ++ lst s).length = l.length + s.size := by rw [List.length_append, lst_len]
      by_cases hroom : l.length + s.size ≤ cap
      · have hr2 := Lib.run_append_room_string (P := Try.prog) w 36 9 ty 5 i Try.underlying36 Try.underlying9 hi hsz g l.length cap cur hg s hroom (by omega)
        refine ⟨_, _, hr2, ?_, .inl ⟨rfl, Grown.setRow w g _ fun _ => rfl⟩⟩
        rw [← hll]
        refine Own.mk (Blk.setRow hg _) (by omega) hcm (by simp only [List.size_toArray, List.length_append, List.length_take, List.length_drop, Array.length_toList, Lib.strCells_length, lst_len]; omega) ?_
        rw [htake, hll, lst_cells, ← bv_app]
        exact List.take_left' (by rw [bv_len, hll])
      · have holds : ∀ j u, (bv l)[j]? = some u → w.cell? ((⟨g, 0, none⟩ : Addr).add j) = some u := World.ownsRow.cells (g := g) hown rfl
        have hr2 := Lib.run_append_grow_string (P := Try.prog) w 36 9 ty 5 i (.int .u8 0) Try.underlying36 Try.underlying9 hi hz ⟨g, 0, none⟩ l.length cap (bv l) (by rw [bv_len, hsz]; omega) holds s (by omega) (by omega) (by rw [hby]; exact growslice_fits_wide (by omega) (by omega))
        refine ⟨_, _, hr2, ?_, .inr ⟨rfl, ⟨rfl, rfl, rfl, by simp, fun k hk => Below.heap_alloc w.drew _ k hk⟩⟩⟩
        have hge := grownCap_ge w (l.length + s.size) cap 5
        rw [← hll] at hge ⊢
        refine Own.mk (heap_alloc_new w.drew _) hge (grownCap_le_maxLen w _ cap 5 (by rw [hll]; exact h63)) ?_ ?_
        · have hz1 : (Value.int IntKind.u8 0).cells.size = 1 := rfl
          simp only [Array.size_append, List.size_toArray, size_zeroCells, hz1, bv_len, Lib.strCells_length]
          omega
        · simp only [Array.toList_append]
          rw [lst_cells, ← bv_app]
          exact List.take_left' (by rw [bv_len])

/-- A text behind bytes of the call's own. -/
theorem wpList_appS {ops : Array Oper} {rest : List Oper} {o : Oper} {a : Act} {w : World} {Q : Exit → Act → World → Prop} (hgd : o.guard = none) (s x : Operand)
    (ho : o.op = .call { callee := .builtin .append, args := #[s, x], argTypes := #[36, 9] }) (v : Value) (l : List Int) (t : ByteArray)
    (hs : a.eval s = v) (hx : a.eval x = .string t) (hown : Own w v l) (hb : l.length + t.size ≤ 200000000000000) (ht : t.size ≤ 140737488355328)
    (h : ∀ v' w', AppPost w v (l ++ lst t) v' w' → wpList Try.prog ops Q rest (a.put o.dst v') w') : wpList Try.prog ops Q (o :: rest) a w := by
  refine wpList_plain hgd fun K hK => ?_
  obtain ⟨v', w', hr, h2⟩ := run_app_string w o.type v l hown t hb ht
  unfold Oper.wp execOp
  simp only [ho, resolve, invoke, builtin, Sem.run_bind, Sem.run_pure, Result.andThen_ok, List.map_toArray, List.map_cons, List.map_nil, hs, hx, hr]
  exact hK _ _ (h v' w' h2)

set_option maxRecDepth 8000 in
set_option maxHeartbeats 1000000 in
theorem olayS_any (p : Nat) (v : Value) (l : List Int) (t : ByteArray) (w : World) (h : OutAt w p v l) (hb : l.length + (bform (lst t)).length ≤ 200000000000000) (ht : t.size ≤ 140737488355328) :
    Calls Try.prog 83 #[ptr p, .string t] w (OutPost p v (l ++ bform (lst t)) w) := by
  have HO : Keep (OutAt w p v l) := ⟨h⟩
  have HB : Keep (l.length + (numL t.size).length + t.size ≤ 200000000000000) := ⟨by simpa [bform, Nat.add_assoc, lst_len] using hb⟩
  have hw := wrap64_len t.size (by have := HB.out; omega)
  have HT := Keep.mk ht
  clear h hb ht
  go_enter Try.func83, Try.ntmps83
  go_wp2_with fail
  refine (onum_any p v l t.size w HO.out (by have := HB.out; omega) (by have := HB.out; simp only [List.length_append]; omega)).mono ?_
  rintro e w1 ⟨rfl, v1, hO1, hm1, hg1⟩
  have HO1 : Keep (OutAt w1 p v1 (l ++ numL t.size)) := ⟨hO1⟩
  have c0 : w1.cell? ⟨p, 0, none⟩ = some v1 := by rw [hO1.blk.cell]; rfl
  have HB1 : Keep ((l ++ numL t.size).length + t.size ≤ 200000000000000) := ⟨by simpa using HB.out⟩
  clear hO1
  go_wp2_with (first | (at_builtin; refine wpList_appS rfl (.tmp 13) (.tmp 14) rfl v1 (l ++ numL t.size) t rfl rfl HO1.out.own HB1.out HT.out ?_; intro v' w' hp; refine Hid.out ?_))
  refine hid_in ?_
  obtain ⟨a1, n1, k1, rfl⟩ := hp.1.sl
  have HP : Keep (AppPost w1 v1 (l ++ bform (lst t)) (.slice a1 n1 k1) w') := ⟨by rw [List.append_assoc, ← lst_len] at hp; exact hp⟩
  have hp1 : Blk w' p 75 #[v1] := hp.grown.blk HO1.out.blk (HO1.out.own.ne HO1.out.blk (by decide))
  have c1 : w'.cell? ⟨p, 0, none⟩ = some v1 := by rw [hp1.cell]; rfl
  have f1 : w'.frozen? ⟨p, 0, none⟩ = false := hp1.frozen 0
  clear hp hp1 c0
  go_wp2
  go_end0
  exact (HO1.out.stored HP.out).trans hm1 hg1

set_option maxRecDepth 8000 in
set_option maxHeartbeats 400000 in
theorem otext_any (p : Nat) (v : Value) (l : List Int) (t : ByteArray) (w : World) (h : OutAt w p v l) (hb : l.length + (bform (lst t)).length ≤ 200000000000000) (ht : t.size ≤ 140737488355328) :
    Calls Try.prog 67 #[ptr p, .string t] w (OutPost p v (l ++ bform (lst t)) w) := by
  have HC := Keep.mk (olayS_any p v l t w h hb ht)
  clear h hb ht
  go_enter Try.func67, Try.ntmps67
  go_wp2_with fail
  refine HC.out.mono ?_
  rintro e w1 ⟨rfl, hrest⟩
  have HR := Keep.mk hrest
  clear hrest
  go_wp2
  go_end0
  exact ⟨rfl, HR.out⟩

set_option maxRecDepth 8000 in
set_option maxHeartbeats 400000 in
theorem olen_any (p : Nat) (v : Value) (l : List Int) (w : World) (h : OutAt w p v l) :
    Calls Try.prog 32 #[ptr p] w fun e w' => e = .returned (.int .i64 (l.length : Int)) ∧ w' = w := by
  obtain ⟨a, c, rfl⟩ := row_form h.own.row
  have c0 : w.cell? ⟨p, 0, none⟩ = some (.slice a l.length c) := by rw [h.blk.cell]; rfl
  clear h
  go_enter Try.func32, Try.ntmps32
  go_wp2
  go_ret
  exact ⟨rfl, rfl⟩

set_option maxRecDepth 8000 in
set_option maxHeartbeats 400000 in
theorem newOut_any (w : World) : Calls Try.prog 16 #[] w fun e w' => e = .returned (ptr w.heap.size) ∧ w' = w.alloc (.cells #[.slice none 0 0] 75) := by
  go_enter Try.func16, Try.ntmps16
  go_wp2
  go_ret
  exact ⟨rfl, rfl⟩
theorem outAt_new (w : World) : OutAt (w.alloc (.cells #[.slice none 0 0] 75)) w.heap.size (.slice none 0 0) [] := ⟨Blk.new _ _ _, own_nil _⟩
end Go.Proofs.Ytbkboebinhafhaa
