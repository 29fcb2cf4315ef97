import Derived.Test.YtbkboebinhafhaaTold
import Derived.Deep.RegionWith
namespace Go.Proofs.Ytbkboebinhafhaa
open Go.RowKit

theorem blk_range {w : World} {b : Nat} {T : TypeId} {cs : Array Value} (h : Blk w b T cs) : w.rangeAt b 0 cs.toList := fun j v hv => by
  rw [Nat.zero_add, h.cell]; simpa using hv
theorem InAt.box {w : World} {p : Nat} {s : ByteArray} {a : Nat} {bad : Option Nat} (h : InAt w p s a bad) (o : Obj) : InAt (w.alloc o) p s a bad := ⟨h.blk.alloc o, h.le⟩
theorem results_cell1_row {P : Program} {fn : Func} {p : Tmp} {ty : TypeId} (h : fn.results = #[.cell p ty]) (tmps : Array Value) (w : World) (g : Nat) (t : TypeId) (cs : Array Value) (fr : Nat × Nat) (d : TypeDesc)
    (hp : tmps.getD p undef = .pointer (some ⟨g, 0, none⟩)) (hg : w.heap[g]? = some (.cells cs t fr))
    (hu : P.underlying ty = some d) (hd : (match d with | .struct _ | .array _ _ => true | _ => false) = true) (hi : (P.info? ty).map (·.size) = some cs.size) :
    (results fn tmps).run P w = .ok (.agg cs) w := by
  have hr := run_loadVar_row (P := P) w g t ty cs fr d hg hu hd hi
  simp only [results, h]
  simp only [Array.getD_eq_getD_getElem?] at hp
  simp [asAddr, hp, hr]
theorem results_tmp_cell_row {P : Program} {fn : Func} {p u : Tmp} {ty : TypeId} (h : fn.results = #[.tmp u, .cell p ty]) (tmps : Array Value) (w : World) (g : Nat) (t : TypeId) (cs : Array Value) (fr : Nat × Nat) (d : TypeDesc) (y : Value)
    (hp : tmps.getD p undef = .pointer (some ⟨g, 0, none⟩)) (hy : tmps.getD u undef = y) (hg : w.heap[g]? = some (.cells cs t fr))
    (hu : P.underlying ty = some d) (hd : (match d with | .struct _ | .array _ _ => true | _ => false) = true) (hi : (P.info? ty).map (·.size) = some cs.size) :
    (results fn tmps).run P w = .ok (.tuple #[y, .agg cs]) w := by
  have hr := run_loadVar_row (P := P) w g t ty cs fr d hg hu hd hi
  simp only [results, h]
  simp only [Array.getD_eq_getD_getElem?] at hp hy
  simp [Result.andThen, asAddr, hp, hy, hr]
theorem results_cell_cell_row {P : Program} {fn : Func} {p p' : Tmp} {ty ty' : TypeId} (h : fn.results = #[.cell p ty, .cell p' ty']) (tmps : Array Value) (w : World) (g g' : Nat) (t t' : TypeId) (cs cs' : Array Value) (fr fr' : Nat × Nat) (d d' : TypeDesc)
    (hp : tmps.getD p undef = .pointer (some ⟨g, 0, none⟩)) (hp' : tmps.getD p' undef = .pointer (some ⟨g', 0, none⟩)) (hg : w.heap[g]? = some (.cells cs t fr)) (hg' : w.heap[g']? = some (.cells cs' t' fr'))
    (hu : P.underlying ty = some d) (hd : (match d with | .struct _ | .array _ _ => true | _ => false) = true) (hi : (P.info? ty).map (·.size) = some cs.size)
    (hu' : P.underlying ty' = some d') (hd' : (match d' with | .struct _ | .array _ _ => true | _ => false) = true) (hi' : (P.info? ty').map (·.size) = some cs'.size) :
    (results fn tmps).run P w = .ok (.tuple #[.agg cs, .agg cs']) w := by
  have hr := run_loadVar_row (P := P) w g t ty cs fr d hg hu hd hi
  have hr' := run_loadVar_row (P := P) w g' t' ty' cs' fr' d' hg' hu' hd' hi'
  simp only [results, h]
  simp only [Array.getD_eq_getD_getElem?] at hp hp'
  simp [Result.andThen, asAddr, hp, hp', hr, hr']

/-- The document's reader at x: it stands at a; what is wrong, and where. -/
def RfAt (w : World) (x : Nat) (vB : Value) (a : Nat) (why b : Int) : Prop := Blk w x 51 #[vB, .int .i64 (a : Int), .int .i64 why, .int .i64 b]
theorem RfAt.c0 {w : World} {x : Nat} {vB : Value} {a : Nat} {why b : Int} (h : RfAt w x vB a why b) : w.cell? ⟨x, 0, none⟩ = some vB := by rw [Blk.cell h]; rfl
theorem RfAt.c1 {w : World} {x : Nat} {vB : Value} {a : Nat} {why b : Int} (h : RfAt w x vB a why b) : w.cell? ⟨x, 1, none⟩ = some (.int .i64 (a : Int)) := by rw [Blk.cell h]; rfl
theorem RfAt.c2 {w : World} {x : Nat} {vB : Value} {a : Nat} {why b : Int} (h : RfAt w x vB a why b) : w.cell? ⟨x, 2, none⟩ = some (.int .i64 why) := by rw [Blk.cell h]; rfl
theorem RfAt.c3 {w : World} {x : Nat} {vB : Value} {a : Nat} {why b : Int} (h : RfAt w x vB a why b) : w.cell? ⟨x, 3, none⟩ = some (.int .i64 b) := by rw [Blk.cell h]; rfl

set_option maxRecDepth 8000 in
set_option maxHeartbeats 400000 in
theorem xleft_any (x : Nat) (va : Option Addr) (n vc a : Nat) (why b : Int) (w : World) (h : RfAt w x (.slice va n vc) a why b) (ha : a ≤ n) (hb : n ≤ 140737488355328) :
    Calls Try.prog 31 #[ptr x] w fun e w' => e = .returned (.int .i64 ((n : Int) - a)) ∧ ∃ q, w' = w.drewN q := by
  have c0 := h.c0
  have c1 := h.c1
  have h1 : (a : Int) ≤ (n : Int) := by omega
  have h2 : (n : Int) ≤ 140737488355328 := by omega
  clear h hb ha
  go_enter Try.func31, Try.ntmps31
  go_wp2
  go_quiet (fail)
  go_wp2
  go_ret
  exact ⟨rfl, nq, rfl⟩

/-- A call of the document's reader under way: the cell of its answer lies at w's end. -/
structure RS (w : World) (x : Nat) (vB : Value) (a : Nat) (why b : Int) (w1 : World) : Prop where
  rf : RfAt w1 x vB a why b
  cell : Blk w1 w.heap.size 49 #[.int .i64 0, .int .i64 0]
  gr : Grown w w1 fun k => k = x
  lt : x < w.heap.size
theorem RS.start {w : World} {x : Nat} {vB : Value} {a : Nat} {why b : Int} (h : RfAt w x vB a why b) : RS w x vB a why b (w.alloc (.cells #[.int .i64 0, .int .i64 0] 49)) :=
  ⟨Blk.alloc h _, Blk.new _ _ _, Grown.alloc _ _ _, Blk.lt h⟩
theorem RS.later {w : World} {x : Nat} {vB : Value} {a : Nat} {why b : Int} {w1 w2 : World} (h : RS w x vB a why b w1) (hb : Below w1.heap.size w1 w2) : RS w x vB a why b w2 :=
  ⟨Blk.below h.rf hb (Blk.lt h.rf), h.cell.below hb h.cell.lt, h.gr.trans (Grown.below hb), h.lt⟩
theorem RS.turned {w : World} {x : Nat} {vB : Value} {a a' : Nat} {why b why' b' : Int} {w1 w2 : World} (h : RS w x vB a why b w1) (h1 : RfAt w2 x vB a' why' b') (h2 : Grown w1 w2 fun k => k = x) : RS w x vB a' why' b' w2 :=
  ⟨h1, h2.blk h.cell (by have := h.lt; omega), h.gr.trans h2, h.lt⟩
theorem RS.fin {w : World} {x : Nat} {vB : Value} {a : Nat} {why b : Int} {w1 : World} (h : RS w x vB a why b w1) (u v : Value) :
    Blk ((w1.setCell ⟨w.heap.size, 0, none⟩ u).setCell ⟨w.heap.size, 1, none⟩ v) w.heap.size 49 #[u, v] ∧ RfAt ((w1.setCell ⟨w.heap.size, 0, none⟩ u).setCell ⟨w.heap.size, 1, none⟩ v) x vB a why b ∧ Grown w ((w1.setCell ⟨w.heap.size, 0, none⟩ u).setCell ⟨w.heap.size, 1, none⟩ v) fun k => k = x := by
  have hne : x ≠ w.heap.size := by have := h.lt; omega
  refine ⟨(h.cell.set 0 u).set 1 v, (Blk.set_ne (Blk.set_ne h.rf hne u) hne v), ?_⟩
  refine (h.gr.next (Grown.setCell w1 w.heap.size 0 u (S := fun k => k = w.heap.size) fun _ => rfl) fun i hi e => ?_).next (Grown.setCell _ w.heap.size 1 v (S := fun k => k = w.heap.size) fun _ => rfl) fun i hi e => ?_
  · omega
  · omega
theorem RS.d0 {w : World} {x : Nat} {vB : Value} {a : Nat} {why b : Int} {w1 : World} (h : RS w x vB a why b w1) : w1.cell? ⟨w.heap.size, 0, none⟩ = some (.int .i64 0) := by rw [h.cell.cell]; rfl
theorem RS.d1 {w : World} {x : Nat} {vB : Value} {a : Nat} {why b : Int} {w1 : World} (h : RS w x vB a why b w1) : w1.cell? ⟨w.heap.size, 1, none⟩ = some (.int .i64 0) := by rw [h.cell.cell]; rfl
theorem RS.step {w : World} {x : Nat} {vB : Value} {a : Nat} {why b : Int} {w1 : World} (h : RS w x vB a why b w1) (a' : Nat) : RS w x vB a' why b (w1.setCell ⟨x, 1, none⟩ (.int .i64 (a' : Int))) :=
  h.turned (Blk.set h.rf 1 _) (Grown.setCell w1 x 1 _ fun _ => rfl)

set_option maxRecDepth 8000 in
set_option maxHeartbeats 1000000 in
theorem xwrong_any (x : Nat) (vB : Value) (a : Nat) (why : Int) (w : World) (h : RfAt w x vB a 0 0) :
    Calls Try.prog 45 #[ptr x, .int .i64 why, .int .i64 (a : Int)] w fun e w' => e = .returned (.agg #[.int .i64 why, .int .i64 (a : Int)]) ∧ RfAt w' x vB a why (a : Int) ∧ Grown w w' fun k => k = x := by
  have HS := Keep.mk (RS.start h)
  have hlt := Blk.lt h
  have hne : x ≠ w.heap.size := by omega
  have hne' : w.heap.size ≠ x := by omega
  clear h
  go_enter Try.func45, Try.ntmps45
  go_wp2_with (first | (refine wpList_new rfl 49 rfl _ Try.new49 ?_; refine Hid.out ?_))
  refine hid_in ?_
  generalize w.alloc (.cells #[.int .i64 0, .int .i64 0] 49) = w1 at *
  have c1 := RfAt.c1 HS.out.rf
  have c2 := RfAt.c2 HS.out.rf
  have c3 := RfAt.c3 HS.out.rf
  have f1 := Blk.frozen HS.out.rf 1
  have f2 := Blk.frozen HS.out.rf 2
  have f3 := Blk.frozen HS.out.rf 3
  have d0 := HS.out.d0
  have d1 := HS.out.d1
  have e0 := HS.out.cell.frozen 0
  have e1 := HS.out.cell.frozen 1
  go_wp2
  have hr : RfAt (((w1.setCell ⟨x, 2, none⟩ (.int .i64 why)).setCell ⟨x, 3, none⟩ (.int .i64 (a : Int))).setCell ⟨x, 1, none⟩ (.int .i64 (a : Int))) x vB a why (a : Int) := Blk.set (Blk.set (Blk.set HS.out.rf 2 _) 3 _) 1 _
  have hf := (HS.out.turned hr (((Grown.setCell w1 x 2 _ (S := fun k => k = x) fun _ => rfl).trans (Grown.setCell _ x 3 _ (S := fun k => k = x) fun _ => rfl)).trans (Grown.setCell _ x 1 _ (S := fun k => k = x) fun _ => rfl))).fin (.int .i64 why) (.int .i64 (a : Int))
  exact bodyPost_ret (results_cell1_row Try.results45 _ _ w.heap.size 49 _ (0, 0) _ rfl hf.1 Try.underlying49 rfl Try.size49) rfl ⟨rfl, hf.2.1, hf.2.2⟩

/-- Where the document's reader has its error. -/
def ErrB (why : Int) (a : Nat) (b : Int) : Prop := (why = 0 ∧ b = 0) ∨ (why ≠ 0 ∧ b = (a : Int))
/-- What a call of the document's reader leaves. -/
def RfPost (x : Nat) (vB : Value) (why : Int) (a : Nat) (res : Value) (w : World) (e : Ending) (w' : World) : Prop :=
  ∃ b, ErrB why a b ∧ e = .returned (.tuple #[res, .agg #[.int .i64 why, .int .i64 b]]) ∧ RfAt w' x vB a why b ∧ Grown w w' fun k => k = x
/-- Where it has met an error before. -/
def RfStuck (why b : Int) (res : Value) (w : World) (e : Ending) (w' : World) : Prop :=
  e = .returned (.tuple #[res, .agg #[.int .i64 why, .int .i64 b]]) ∧ Below w.heap.size w w'
theorem below_two {B : Nat} {w w1 : World} (h : Below B w w1) {g : Nat} (hg : B ≤ g) (u v : Value) : Below B w ((w1.setCell ⟨g, 0, none⟩ u).setCell ⟨g, 1, none⟩ v) := (h.setCell hg _).setCell hg _

set_option maxRecDepth 8000 in
set_option maxHeartbeats 1000000 in
theorem xbyte_bad (x : Nat) (vB : Value) (a : Nat) (why b : Int) (w : World) (h : RfAt w x vB a why b) (hw : why ≠ 0) :
    Calls Try.prog 61 #[ptr x] w (RfStuck why b (.int .u8 0) w) := by
  have HS := Keep.mk (RS.start h)
  have HB := Keep.mk (below_new w (.cells #[.int .i64 0, .int .i64 0] 49))
  have hy1 : (why == 0) = false := by simpa using hw
  clear h
  go_enter Try.func61, Try.ntmps61
  go_wp2_with (first | (refine wpList_new rfl 49 rfl _ Try.new49 ?_; refine Hid.out ?_))
  refine hid_in ?_
  generalize w.alloc (.cells #[.int .i64 0, .int .i64 0] 49) = w1 at *
  have c2 := RfAt.c2 HS.out.rf
  have c3 := RfAt.c3 HS.out.rf
  have d0 := HS.out.d0
  have d1 := HS.out.d1
  have e0 := HS.out.cell.frozen 0
  have e1 := HS.out.cell.frozen 1
  go_wp2_with fail
  go_region
  go_wp2
  exact bodyPost_ret (results_tmp_cell_row Try.results61 _ _ w.heap.size 49 _ (0, 0) _ _ rfl rfl (HS.out.fin (.int .i64 why) (.int .i64 b)).1.drew Try.underlying49 rfl Try.size49) rfl ⟨rfl, (below_two HB.out (Nat.le_refl _) _ _).drew⟩

set_option maxRecDepth 8000 in
set_option maxHeartbeats 1000000 in
theorem xbyte_good (x : Nat) (vB : Value) (l : List Int) (a : Nat) (w : World) (h : RfAt w x vB a 0 0) (hR : ∀ wx, (Grown w wx fun k => k = x) → RowAt wx vB l) (ha : a ≤ l.length) (hb : l.length ≤ 140737488355328) (D : List Int) (hD : D = l.drop a) (W : Int) (hW : W = nextW D 1) (N : Nat) (hN : N = nextN D 1) (c : Int) (hc : c = if W = 0 then D.getD 0 0 else 0) :
    Calls Try.prog 61 #[ptr x] w (RfPost x vB W (a + N) (.int .u8 c) w) := by
  have HS := Keep.mk (RS.start h)
  have HR := Keep.mk hR
  have hlen : D.length = l.length - a := by rw [hD, List.length_drop]
  obtain ⟨va, vc, hvB⟩ := row_form (hR w (Grown.refl _ _))
  subst hvB
  rw [nextW_1] at hW
  have Hb := Keep.mk hb
  have Ha := Keep.mk ha
  by_cases hl : a = l.length
  · have HW : W = 20 := by rw [hW, if_pos (by omega)]
    have HN : N = 0 := by rw [hN]; exact nextN_1 D 1 (by rw [nextW_1, if_pos (by omega)]; decide)
    have Hc : c = 0 := by rw [hc, HW]; rfl
    subst HN
    subst Hc
    rw [HW, Nat.add_zero]
    have hli : (l.length : Int) - (a : Int) < 1 := by omega
    clear h hR hW hN hc hlen ha hb hD HW hl
    go_enter Try.func61, Try.ntmps61
    go_wp2_with (first | (refine wpList_new rfl 49 rfl _ Try.new49 ?_; refine Hid.out ?_))
    refine hid_in ?_
    generalize w.alloc (.cells #[.int .i64 0, .int .i64 0] 49) = w1 at *
    have c2 := RfAt.c2 HS.out.rf
    go_wp2_with fail
    refine (xleft_any x va l.length vc a 0 0 w1 HS.out.rf Ha.out Hb.out).mono ?_
    rintro e w2 ⟨rfl, qd, hw2⟩
    have HS2 := Keep.mk (HS.out.later (w2 := w2) (by rw [hw2]; exact below_drewN _ _))
    clear hw2 c2 HS
    have c1 := RfAt.c1 HS2.out.rf
    go_wp2_with fail
    refine (xwrong_any x _ a 20 w2 HS2.out.rf).mono ?_
    rintro e w3 ⟨rfl, hr, hg⟩
    have HS3 := Keep.mk (HS2.out.turned hr hg)
    clear hr hg HS2 c1
    have d0 := HS3.out.d0
    have d1 := HS3.out.d1
    have e0 := HS3.out.cell.frozen 0
    have e1 := HS3.out.cell.frozen 1
    go_wp2
    have hf := HS3.out.fin (.int .i64 20) (.int .i64 (a : Int))
    exact bodyPost_ret (results_tmp_cell_row Try.results61 _ _ w.heap.size 49 _ (0, 0) _ _ rfl rfl hf.1 Try.underlying49 rfl Try.size49) rfl ⟨_, .inr ⟨by decide, rfl⟩, rfl, hf.2.1, hf.2.2⟩
  · have HW : W = 0 := by rw [hW, if_neg (by omega)]
    have HN : N = 1 := by rw [hN]; exact (nextN_0 D 1 (by rw [nextW_1, if_neg (by omega)])).1
    have Hc : c = l.getD a 0 := by rw [hc, HW, if_pos rfl, hD]; simp [List.getD_eq_getElem?_getD]
    subst HN
    rw [HW]
    have hli : ¬ ((l.length : Int) - (a : Int) < 1) := by omega
    have hai : (a : Int) < (l.length : Int) := by omega
    have hbi : (l.length : Int) ≤ 140737488355328 := by omega
    have Hlt : Keep (a < l.length) := ⟨by omega⟩
    obtain ⟨gb, go, rfl⟩ : ∃ gb go, va = some ⟨gb, go, none⟩ := by
      rcases hR w (Grown.refl _ _) with ⟨_, e⟩ | ⟨_, _, _, e⟩ | ⟨g, o, _, e, _, _⟩
      · have : l.length = 0 := by rw [e]; rfl
        omega
      · have : l.length = 0 := by rw [e]; rfl
        omega
      · injection e with e1; exact ⟨g, o, e1⟩
    have HRc : Keep (∀ wx, (Grown w wx fun k => k = x) → wx.cell? ⟨gb, go + a, none⟩ = some (.int .u8 c)) := ⟨fun wx hg => by
      rcases HR.out wx hg with ⟨_, e⟩ | ⟨_, _, _, e⟩ | ⟨g, o, _, e, _, h3⟩
      · have : l.length = 0 := by rw [e]; rfl
        omega
      · have : l.length = 0 := by rw [e]; rfl
        omega
      · injection e with e1 e2
        injection e1 with e1
        injection e1 with e3 e4
        rw [e3, e4, Hc]; exact h3 a Hlt.out⟩
    clear h hR hW hN hc hlen ha hb hD HW hl Hc
    go_enter Try.func61, Try.ntmps61
    go_wp2_with (first | (refine wpList_new rfl 49 rfl _ Try.new49 ?_; refine Hid.out ?_))
    refine hid_in ?_
    generalize w.alloc (.cells #[.int .i64 0, .int .i64 0] 49) = w1 at *
    have c2 := RfAt.c2 HS.out.rf
    go_wp2_with fail
    refine (xleft_any x _ l.length vc a 0 0 w1 HS.out.rf Ha.out Hb.out).mono ?_
    rintro e w2 ⟨rfl, qd, hw2⟩
    have HS2 := Keep.mk (HS.out.later (w2 := w2) (by rw [hw2]; exact below_drewN _ _))
    clear hw2 c2 HS
    have c1 := RfAt.c1 HS2.out.rf
    have f1 := Blk.frozen HS2.out.rf 1
    go_wp2_with fail
    have HS3 := Keep.mk (HS2.out.step (a + 1))
    rw [show (((a + 1 : Nat)) : Int) = (a : Int) + 1 from rfl] at HS3
    generalize w2.setCell ⟨x, 1, none⟩ (.int .i64 ((a : Int) + 1)) = w3 at *
    have g0 := RfAt.c0 HS3.out.rf
    have g1 := RfAt.c1 HS3.out.rf
    rw [show (((a + 1 : Nat)) : Int) = (a : Int) + 1 from rfl] at g1
    have hc := HRc.out w3 HS3.out.gr
    have d0 := HS3.out.d0
    have d1 := HS3.out.d1
    have e0 := HS3.out.cell.frozen 0
    have e1 := HS3.out.cell.frozen 1
    clear c1 f1
    go_region
    go_wp2
    have hf := HS3.out.fin (.int .i64 0) (.int .i64 0)
    exact bodyPost_ret (results_tmp_cell_row Try.results61 _ _ w.heap.size 49 _ (0, 0) _ _ rfl rfl hf.1.drew Try.underlying49 rfl Try.size49) rfl ⟨_, .inl ⟨rfl, rfl⟩, rfl, Blk.drew hf.2.1, hf.2.2.drew⟩
end Go.Proofs.Ytbkboebinhafhaa
