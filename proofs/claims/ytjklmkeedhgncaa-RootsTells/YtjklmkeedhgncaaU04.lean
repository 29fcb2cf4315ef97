import Derived.Test.YtjklmkeedhgncaaU03
import Derived.Deep.RegionHeld3
namespace Go.Proofs.Ytjklmkeedhgncaa
open Go.RowKit
set_option linter.unusedSimpArgs false
set_option linter.unusedVariables false
theorem WL.app {ops : Array Oper} {rest : List Oper} {o : Oper} {a : Act} {w : World} {Q : Exit → Act → World → Prop} (hw : Region.wanted o (yielded ops a.tmps) = true) (s x : Operand)
    (ho : o.op = .call { callee := .builtin .append, args := #[s, x], argTypes := #[38, 38] }) (v vx : Value) (l m : List Int)
    (hs : a.eval s = v) (hx : a.eval x = vx) (hown : Own w v l) (hrow : RowAt w vx m) (hb : l.length + m.length ≤ 140737488355328)
    (h : ∀ v' w', AppPost w v (l ++ m) v' w' → WL Try.prog ops Q rest (a.put o.dst v') w') : WL Try.prog ops Q (o :: rest) a w :=
  ⟨wpList_wanted hw fun K hK => by
    obtain ⟨v', w', hr, h2⟩ := run_app_row w o.type v vx l m hown hrow hb
    unfold Oper.wp execOp
    simp only [ho, resolve, invoke, builtin, Sem.run_bind, Sem.run_pure, Result.andThen_ok, List.map_toArray, List.map_cons, List.map_nil, hs, hx, hr]
    exact hK _ _ (h v' w' h2).out⟩
def le8 (n : Nat) : List Int := (List.range 8).map fun t => (n : Int) / 2 ^ (8 * t) % 256
theorem le8_len (n : Nat) : (le8 n).length = 8 := by simp [le8]

structure CV where
  k : Int
  s : ByteArray
  v : Value
  l : List Int
def CV.ce (c : CV) : RtP.CE := ⟨c.k.toNat, lst c.s, c.l⟩
def cvL (c : CV) : List Value := [.int .i64 c.k, .string c.s, c.v]
structure CsAt (B : Nat) (w : World) (b off : Nat) (L : List CV) : Prop where
  lt : b < B
  at_ : ∀ (i : Nat) (c : CV), L[i]? = some c → w.rangeAt b (off + i * 3) (cvL c)
  row : ∀ c ∈ L, RowAt w c.v c.l ∧ (c.l ≠ [] → ∀ k, c.v.ownBlock = some k → k < B)
theorem Grown.ofBelow {B : Nat} {w w' : World} (h : Below B w w') : Grown w w' (fun k => B ≤ k) := ⟨h.os, h.tape, h.output, h.size, fun i _ hs => h.block i (by omega)⟩
theorem CsAt.below {B : Nat} {w w' : World} {b off : Nat} {L : List CV} (h : CsAt B w b off L) (hb : Below B w w') : CsAt B w' b off L :=
  ⟨h.lt, fun i c hc => rangeAt_below (h.at_ i c hc) hb h.lt, fun c hc => ⟨(by
    by_cases h0 : c.l = []
    · have h1 := (h.row c hc).1
      rw [h0] at h1 ⊢
      exact row_nil h1
    · exact (h.row c hc).1.grown (Grown.ofBelow hb) fun k hk e => by have := (h.row c hc).2 h0 k hk; omega), (h.row c hc).2⟩⟩
def shaL (l : List Int) : List Int := hl 32 (shaP l)
theorem shaL_len (l : List Int) : (shaL l).length = 32 := by simp [shaL, hl_len]
theorem hl_hof {l : List Int} (h : l.length = 32) : hl 32 (hof l) = l := by
  refine List.ext_getElem (by simp [hl_len, h]) fun i h1 h2 => ?_
  simp [hl, hof, List.getD_eq_getElem?_getD, h2]
theorem hof_hl (f : Nat → Int) : bytesA 32 (hof (hl 32 f)) = bytesA 32 f := bytesA_congr fun i hi => by
  simp [hof, hl, List.getD_eq_getElem?_getD, hi]
def treeL (k : Nat) (L : List CV) : List Int := RtP.tree shaL numL k (L.map CV.ce)
theorem treeL_len {k : Nat} {L : List CV} (h1 : 1 ≤ L.length) (h2 : L.length ≤ k) : (treeL k L).length = 32 := RtP.tree_len shaL numL shaL_len k _ (by simpa using h1) (by simpa using h2)
theorem treeL_one (k : Nat) (c : CV) : treeL (k + 1) [c] = shaL (RtP.leafR numL c.ce) := by simp [treeL, RtP.tree]
theorem treeL_two {k : Nat} {L : List CV} (h : ¬ L.length ≤ 1) : treeL (k + 1) L = shaL (RtP.innR (treeL k (L.take (RtP.half L.length))) (treeL k (L.drop (RtP.half L.length)))) := by
  unfold treeL
  rw [RtP.tree, if_neg (by simpa using h)]
  simp [List.map_take, List.map_drop]
def Fit (L : List CV) : Prop := ∀ c ∈ L, (0 ≤ c.k ∧ c.k < 9223372036854775808) ∧ (c.s.size ≤ 140737488351232 ∧ c.l.length ≤ 140737488351232)
theorem Try.sizeC (a b c : Value) : (Try.prog.info? 40).map (·.size) = some (#[a, b, c] : Array Value).size := by kernel_rfl


def CsV (B : Nat) (w : World) (v : Value) (L : List CV) : Prop :=
  (∃ a c, v = .slice a 0 c ∧ L = []) ∨ ∃ b off cap, v = .slice (some ⟨b, off, none⟩) L.length cap ∧ L.length ≤ cap ∧ CsAt B w b off L
theorem CsV.below {B : Nat} {w w' : World} {v : Value} {L : List CV} (h : CsV B w v L) (hb : Below B w w') : CsV B w' v L := by
  rcases h with h | ⟨b, off, cap, h1, h2, h3⟩
  · exact .inl h
  · exact .inr ⟨b, off, cap, h1, h2, h3.below hb⟩
def rootL (L : List CV) : List Int := RtP.rootR shaL numL le8 (L.map CV.ce)
theorem rootL_eq (L : List CV) : rootL L = RtP.topR le8 L.length (treeL L.length L) := by simp [rootL, RtP.rootR, treeL]


theorem Try.in18 (w : World) (vs : Array Value) : (callFunc 18 vs).run Try.prog w = .ok (.enter 18 vs) w := by kernel_rfl
theorem Try.in31 (w : World) (vs : Array Value) : (callFunc 31 vs).run Try.prog w = .ok (.enter 31 vs) w := by kernel_rfl
theorem Try.in33 (w : World) (vs : Array Value) : (callFunc 33 vs).run Try.prog w = .ok (.enter 33 vs) w := by kernel_rfl
def okK (L : List CV) : Bool := L.all fun c => kmay c.k
def okO : List CV → Bool
  | c :: d :: r => aheI c.k c.s d.k d.s && okO (d :: r)
  | _ => true
def wrongI (L : List CV) : Int := if okK L then (if okO L then 0 else 130) else 40
theorem okK_no {L : List CV} {t : Nat} {c : CV} (h : L[t]? = some c) (hc : kmay c.k = false) : okK L = false := by
  rw [okK, List.all_eq_false]
  exact ⟨c, List.mem_of_getElem? h, by simp [hc]⟩
theorem okK_yes {L : List CV} (h : ∀ (i : Nat) (c : CV), i < L.length → L[i]? = some c → kmay c.k = true) : okK L = true := by
  rw [okK, List.all_eq_true]
  intro c hc
  obtain ⟨i, hi⟩ := List.getElem?_of_mem hc
  exact h i c (List.getElem?_eq_some_iff.1 hi).1 hi
theorem okO_no : ∀ {L : List CV} {t : Nat} {c d : CV}, L[t]? = some c → L[t + 1]? = some d → aheI c.k c.s d.k d.s = false → okO L = false
  | [], t, c, d, h, _, _ => by simp at h
  | [a], t, c, d, _, h, _ => by simp at h
  | a :: b :: r, 0, c, d, h1, h2, h => by
    simp at h1 h2
    subst h1 h2
    simp [okO, h]
  | a :: b :: r, t + 1, c, d, h1, h2, h => by
    have := okO_no (L := b :: r) (t := t) (by simpa using h1) (by simpa using h2) h
    simp [okO, this]
theorem okO_yes : ∀ {L : List CV}, (∀ (i : Nat) (c d : CV), L[i]? = some c → L[i + 1]? = some d → aheI c.k c.s d.k d.s = true) → okO L = true
  | [], _ => rfl
  | [a], _ => rfl
  | a :: b :: r, h => by
    have h0 := h 0 a b rfl rfl
    have := okO_yes (L := b :: r) fun i c d hc hd => h (i + 1) c d (by simpa using hc) (by simpa using hd)
    simp [okO, h0, this]
theorem CsAt.c {B : Nat} {w : World} {b off t : Nat} {L : List CV} {c : CV} (h : CsAt B w b off L) (hc : L[t]? = some c) : w.cell? ⟨b, off + t * 3, none⟩ = some (.int .i64 c.k) ∧ w.cell? ⟨b, off + t * 3 + 1, none⟩ = some (.string c.s) ∧ w.cell? ⟨b, off + t * 3 + 2, none⟩ = some c.v :=
  ⟨h.at_ t c hc 0 _ rfl, h.at_ t c hc 1 _ rfl, h.at_ t c hc 2 _ rfl⟩
set_option maxRecDepth 8000 in
theorem wrong_any (B : Nat) (v : Value) (L : List CV) (w : World) (hC : CsV B w v L) (hB : B ≤ w.heap.size) (hN : L.length ≤ 4398046511104) :
    Calls Try.prog 18 #[v] w fun e w' => e = .returned (.int .i64 (wrongI L)) ∧ Below w.heap.size w w' := by
  obtain ⟨n, hn⟩ : ∃ z, Keep (L.length = z) := ⟨_, ⟨rfl⟩⟩
  obtain ⟨la, cap, rfl, hC'⟩ : ∃ la cap, v = .slice la n cap ∧ (0 < n → ∃ b off, la = some ⟨b, off, none⟩ ∧ CsAt B w b off L) := by
    rcases hC with ⟨a, c, rfl, rfl⟩ | ⟨b, off, cap, rfl, h2, h3⟩
    · exact ⟨a, c, by rw [← hn.out]; rfl, fun h => by have := hn.out; simp at this; omega⟩
    · exact ⟨_, cap, by rw [hn.out], fun _ => ⟨b, off, rfl, h3⟩⟩
  have HC := Keep.mk hC'
  have HB := Keep.mk hB
  have HN : Keep (n ≤ 4398046511104) := ⟨by rw [← hn.out]; exact hN⟩
  clear hC hC' hB hN
  go_enter Try.func18, Try.ntmps18
  refine wp_seq_k fun K1 hK1 => ?_
  refine wp_region_list (WL.out ?_)
  refine WL.val (by kernel_rfl) (.int .i64 0) (by go_simp) ?_
  simp only [Act.put, List.setIfInBounds_toArray, List.set_cons_zero, List.set_cons_succ]
  refine WL.nil ?_
  refine hK1 _ _ ?_
  refine wp_seq_k fun K2 hK2 => ?_
  refine wp_seq_k fun K3 hK3 => ?_
  refine wp_region_list (WL.out ?_)
  refine WL.val (by kernel_rfl) (.int .i64 0) (by go_simp) ?_
  simp only [Act.put, List.setIfInBounds_toArray, List.set_cons_zero, List.set_cons_succ]
  refine WL.nil ?_
  refine hK3 _ _ ?_
  refine wp_block ?_
  refine wp_loop (fun ac wr => ∃ (t : Nat) (f : Nat → Value), ac = { tmps := #[.slice la n cap, undef, f 2, .int .i64 (t : Int), f 4, undef, undef, f 7, f 8, f 9, f 10, f 11, f 12, f 13, f 14, f 15, f 16, f 17, f 18, f 19, f 20, undef, undef, undef, undef, undef, undef, undef, undef, undef, undef, undef, undef, undef, undef, undef, undef, undef, undef, undef, undef, undef, undef, undef, undef, undef, undef, undef, undef, undef, undef, undef], defers := [] } ∧ t ≤ n ∧ wr = w ∧ (∀ (i : Nat) (c : CV), i < t → L[i]? = some c → kmay c.k = true)) (fun a _ => n - (intOf (a.tmps.getD 3 undef)).toNat) ⟨0, fun zz => [.slice la n cap, undef, .int .i64 0, .int .i64 0, undef, undef, undef, undef, undef, undef, undef, undef, undef, undef, undef, undef, undef, undef, undef, undef, undef, undef, undef, undef, undef, undef, undef, undef, undef, undef, undef, undef, undef, undef, undef, undef, undef, undef, undef, undef, undef, undef, undef, undef, undef, undef, undef, undef, undef, undef, undef, undef].getD zz undef, rfl, by omega, rfl, fun i c hi _ => by omega⟩ ?_
  rintro ac wr ⟨t, f, rfl, ht, hw, hI⟩
  have hw := hw.symm
  subst hw
  have HI := Keep.mk hI
  clear hI
  by_cases htl : t < n
  · have htl' : (t : Int) < (n : Int) := by omega
    obtain ⟨b, off, hla, hcx⟩ := HC.out (by omega)
    subst hla
    have HX := Keep.mk hcx
    clear hcx
    obtain ⟨c, Hc⟩ : ∃ z, Keep (L[t]? = some z) := ⟨L[t]'(by rw [hn.out]; exact htl), ⟨List.getElem?_eq_getElem _⟩⟩
    have c0 := (HX.out.c Hc.out).1
    refine wp_seq_k fun K4 hK4 => ?_
    refine wp_seq_k fun K5 hK5 => ?_
    refine wp_region_list (WL.out ?_)
    refine WL.val (by kernel_rfl) (.int .i64 (t : Int)) (by go_simp) ?_
    simp only [Act.put, List.setIfInBounds_toArray, List.set_cons_zero, List.set_cons_succ]
    refine WL.val (by kernel_rfl) (.slice (some ⟨b, off, none⟩) n cap) (by go_simp) ?_
    simp only [Act.put, List.setIfInBounds_toArray, List.set_cons_zero, List.set_cons_succ]
    refine WL.val (by kernel_rfl) (.int .i64 (n : Int)) (by go_simp) ?_
    simp only [Act.put, List.setIfInBounds_toArray, List.set_cons_zero, List.set_cons_succ]
    refine WL.val (by kernel_rfl) (.bool true) (by go_simp) ?_
    simp only [Act.put, List.setIfInBounds_toArray, List.set_cons_zero, List.set_cons_succ]
    refine WL.nil ?_
    refine hK5 _ _ ?_
    refine wp_cond_true rfl ?_
    refine wp_skip ?_
    refine hK4 _ _ ?_
    refine wp_seq_k fun K6 hK6 => ?_
    refine wp_block ?_
    refine wp_seq_k fun K7 hK7 => ?_
    refine wp_region_list (WL.out ?_)
    refine WL.val (by kernel_rfl) (.slice (some ⟨b, off, none⟩) n cap) (by go_simp) ?_
    simp only [Act.put, List.setIfInBounds_toArray, List.set_cons_zero, List.set_cons_succ]
    refine WL.val (by kernel_rfl) (.int .i64 (t : Int)) (by go_simp) ?_
    simp only [Act.put, List.setIfInBounds_toArray, List.set_cons_zero, List.set_cons_succ]
    refine WL.val (by kernel_rfl) (.pointer (some ⟨b, off + t * 3, none⟩)) (by go_simp) ?_
    simp only [Act.put, List.setIfInBounds_toArray, List.set_cons_zero, List.set_cons_succ]
    refine WL.val (by kernel_rfl) (.pointer (some ⟨b, off + t * 3, none⟩)) (by go_simp) ?_
    simp only [Act.put, List.setIfInBounds_toArray, List.set_cons_zero, List.set_cons_succ]
    refine WL.val (by kernel_rfl) (.int .i64 c.k) (by go_simp) ?_
    simp only [Act.put, List.setIfInBounds_toArray, List.set_cons_zero, List.set_cons_succ]
    clear c0
    refine WL.callF (by kernel_rfl) 31 _ _ rfl Try.in31 #[.int .i64 c.k] (by simp [Act.eval]) ?_
    refine (kmay_any c.k _).mono ?_
    rintro e w1_ ⟨rfl, hw_⟩
    refine ⟨_, rfl, ?_⟩
    have hw_ := hw_.symm
    subst hw_
    simp only [Act.put, List.setIfInBounds_toArray, List.set_cons_zero, List.set_cons_succ]
    refine WL.val (by kernel_rfl) (.bool (kmay c.k)) (by go_simp) ?_
    simp only [Act.put, List.setIfInBounds_toArray, List.set_cons_zero, List.set_cons_succ]
    refine WL.nil ?_
    refine hK7 _ _ ?_
    refine wp_seq_k fun K8 hK8 => ?_
    refine wp_region_list (WL.out ?_)
    refine WL.val (by kernel_rfl) (.bool (kmay c.k)) (by go_simp) ?_
    simp only [Act.put, List.setIfInBounds_toArray, List.set_cons_zero, List.set_cons_succ]
    refine WL.val (by kernel_rfl) (.bool (!kmay c.k)) (by go_simp) ?_
    simp only [Act.put, List.setIfInBounds_toArray, List.set_cons_zero, List.set_cons_succ]
    refine WL.nil ?_
    refine hK8 _ _ ?_
    cases hkm : kmay c.k
    · simp only [Bool.not_false]
      refine wp_cond_true rfl ?_
      refine wp_seq_k fun K9 hK9 => ?_
      refine wp_region_list (WL.out ?_)
      refine WL.val (by kernel_rfl) (.int .i64 40) (by go_simp) ?_
      simp only [Act.put, List.setIfInBounds_toArray, List.set_cons_zero, List.set_cons_succ]
      refine WL.nil ?_
      refine hK9 _ _ ?_
      refine wp_ret ?_
      go_ret
      exact ⟨by rw [wrongI, okK_no Hc.out hkm]; rfl, Below.refl _ _⟩
    · simp only [Bool.not_true]
      have hw3 : IntKind.i64.wrap ((t : Int) + 1) = ((t + 1 : Nat) : Int) := by rw [IntKind.wrap_i64]; have := HN.out; omega
      refine wp_cond_false rfl ?_
      refine wp_skip ?_
      refine hK6 _ _ ?_
      refine wp_region_list (WL.out ?_)
      refine WL.val (by kernel_rfl) (.int .i64 (t : Int)) (by go_simp) ?_
      simp only [Act.put, List.setIfInBounds_toArray, List.set_cons_zero, List.set_cons_succ]
      refine WL.val (by kernel_rfl) (.int .i64 ((t + 1 : Nat) : Int)) (by go_simp) ?_
      simp only [Act.put, List.setIfInBounds_toArray, List.set_cons_zero, List.set_cons_succ]
      refine WL.val (by kernel_rfl) (.int .i64 ((t + 1 : Nat) : Int)) (by go_simp) ?_
      simp only [Act.put, List.setIfInBounds_toArray, List.set_cons_zero, List.set_cons_succ]
      refine WL.nil ?_
      refine ⟨⟨t + 1, fun zz => [.slice (some ⟨b, off, none⟩) n cap, undef, f 2, .int .i64 ((t + 1 : Nat) : Int), .bool true, undef, undef, .int .i64 (t : Int), .slice (some ⟨b, off, none⟩) n cap, .int .i64 (n : Int), .bool true, .int .i64 (t : Int), .int .i64 ((t + 1 : Nat) : Int), .slice (some ⟨b, off, none⟩) n cap, .int .i64 (t : Int), .pointer (some ⟨b, off + t * 3, none⟩), .pointer (some ⟨b, off + t * 3, none⟩), .int .i64 c.k, .bool true, .bool true, .bool false, undef, undef, undef, undef, undef, undef, undef, undef, undef, undef, undef, undef, undef, undef, undef, undef, undef, undef, undef, undef, undef, undef, undef, undef, undef, undef, undef, undef, undef, undef, undef].getD zz undef, rfl, by omega, rfl, fun i d hi hd => ?_⟩, ?_⟩
      · by_cases e : i = t
        · subst e; rw [Hc.out] at hd; injection hd with hd; subst hd; exact hkm
        · exact HI.out i d (by omega) hd
      · simp only [intOf]; show n - (((t + 1 : Nat) : Int)).toNat < n - ((t : Int)).toNat; omega
  · have htl' : ¬ (t : Int) < (n : Int) := by omega
    have HKy : Keep (∀ (i : Nat) (c : CV), i < L.length → L[i]? = some c → kmay c.k = true) := ⟨fun i c hi hc => HI.out i c (by rw [hn.out] at hi; omega) hc⟩
    refine wp_seq_k fun K10 hK10 => ?_
    refine wp_seq_k fun K11 hK11 => ?_
    refine wp_region_list (WL.out ?_)
    refine WL.val (by kernel_rfl) (.int .i64 (t : Int)) (by go_simp) ?_
    simp only [Act.put, List.setIfInBounds_toArray, List.set_cons_zero, List.set_cons_succ]
    refine WL.val (by kernel_rfl) (.slice la n cap) (by go_simp) ?_
    simp only [Act.put, List.setIfInBounds_toArray, List.set_cons_zero, List.set_cons_succ]
    refine WL.val (by kernel_rfl) (.int .i64 (n : Int)) (by go_simp) ?_
    simp only [Act.put, List.setIfInBounds_toArray, List.set_cons_zero, List.set_cons_succ]
    refine WL.val (by kernel_rfl) (.bool false) (by go_simp) ?_
    simp only [Act.put, List.setIfInBounds_toArray, List.set_cons_zero, List.set_cons_succ]
    refine WL.nil ?_
    refine hK11 _ _ ?_
    refine wp_cond_false rfl ?_
    refine wp_exit ?_
    refine hK2 _ _ ?_
    refine wp_seq_k fun K12 hK12 => ?_
    refine wp_seq_k fun K13 hK13 => ?_
    refine wp_region_list (WL.out ?_)
    refine WL.val (by kernel_rfl) (.int .i64 1) (by go_simp) ?_
    simp only [Act.put, List.setIfInBounds_toArray, List.set_cons_zero, List.set_cons_succ]
    refine WL.nil ?_
    refine hK13 _ _ ?_
    refine wp_block ?_
    refine wp_loop (fun ac wq => ∃ (u : Nat) (g : Nat → Value), ac = { tmps := #[.slice la n cap, undef, g 2, .int .i64 (t : Int), f 4, .int .i64 ((u + 1 : Nat) : Int), g 6, .int .i64 (t : Int), .slice la n cap, .int .i64 (n : Int), .bool false, f 11, f 12, f 13, f 14, f 15, f 16, f 17, f 18, f 19, f 20, g 21, g 22, g 23, g 24, g 25, g 26, g 27, g 28, g 29, g 30, g 31, g 32, g 33, g 34, g 35, g 36, g 37, g 38, g 39, g 40, g 41, g 42, g 43, g 44, g 45, g 46, g 47, g 48, g 49, g 50, g 51], defers := [] } ∧ u ≤ n ∧ Below w.heap.size w wq ∧ (∀ (i : Nat) (c d : CV), i < u → L[i]? = some c → L[i + 1]? = some d → aheI c.k c.s d.k d.s = true)) (fun a _ => n + 1 - (intOf (a.tmps.getD 5 undef)).toNat) ⟨0, fun zz => [.slice la n cap, undef, f 2, .int .i64 (t : Int), f 4, .int .i64 1, undef, .int .i64 (t : Int), .slice la n cap, .int .i64 (n : Int), .bool false, f 11, f 12, f 13, f 14, f 15, f 16, f 17, f 18, f 19, f 20, undef, undef, undef, undef, undef, undef, undef, undef, undef, undef, undef, undef, undef, undef, undef, undef, undef, undef, undef, undef, undef, undef, undef, undef, undef, undef, undef, undef, undef, undef, undef].getD zz undef, rfl, by omega, Below.refl _ _, fun i c d hi _ _ => by omega⟩ ?_
    rintro ac wq ⟨u, g, rfl, hu, hb, hJ⟩
    have BB := Keep.mk hb
    have HJ := Keep.mk hJ
    clear hb hJ
    by_cases hul : u + 1 < n
    · have hul' : ((u + 1 : Nat) : Int) < (n : Int) := by omega
      have hw4 : IntKind.i64.wrap (((u + 1 : Nat) : Int) - 1) = (u : Int) := by rw [IntKind.wrap_i64]; have := HN.out; omega
      have hul2 : (u : Int) < (n : Int) := by omega
      have hul3 : (u : Int) + 1 < (n : Int) := by omega
      have hul4 : ¬ (u : Int) + 1 < 0 := by omega
      have hw8 : IntKind.i64.wrap (u : Int) = (u : Int) := by rw [IntKind.wrap_i64]; have := HN.out; omega
      have hw6 : IntKind.i64.wrap ((u : Int) + 1 - 1) = (u : Int) := by rw [IntKind.wrap_i64]; have := HN.out; omega
      obtain ⟨b, off, hla, hcx⟩ := HC.out (by omega)
      subst hla
      have HX0 := Keep.mk hcx
      clear hcx
      obtain ⟨c, Hc⟩ : ∃ z, Keep (L[u]? = some z) := ⟨L[u]'(by rw [hn.out]; omega), ⟨List.getElem?_eq_getElem _⟩⟩
      obtain ⟨d, Hd⟩ : ∃ z, Keep (L[u + 1]? = some z) := ⟨L[u + 1]'(by rw [hn.out]; omega), ⟨List.getElem?_eq_getElem _⟩⟩
      refine wp_seq_k fun K14 hK14 => ?_
      refine wp_seq_k fun K15 hK15 => ?_
      refine wp_region_list (WL.out ?_)
      refine WL.val (by kernel_rfl) (.int .i64 ((u + 1 : Nat) : Int)) (by go_simp) ?_
      simp only [Act.put, List.setIfInBounds_toArray, List.set_cons_zero, List.set_cons_succ]
      refine WL.val (by kernel_rfl) (.slice (some ⟨b, off, none⟩) n cap) (by go_simp) ?_
      simp only [Act.put, List.setIfInBounds_toArray, List.set_cons_zero, List.set_cons_succ]
      refine WL.val (by kernel_rfl) (.int .i64 (n : Int)) (by go_simp) ?_
      simp only [Act.put, List.setIfInBounds_toArray, List.set_cons_zero, List.set_cons_succ]
      refine WL.val (by kernel_rfl) (.bool true) (by go_simp) ?_
      simp only [Act.put, List.setIfInBounds_toArray, List.set_cons_zero, List.set_cons_succ]
      refine WL.nil ?_
      refine hK15 _ _ ?_
      refine wp_cond_true rfl ?_
      refine wp_skip ?_
      refine hK14 _ _ ?_
      refine wp_seq_k fun K16 hK16 => ?_
      refine wp_block ?_
      refine wp_seq_k fun K17 hK17 => ?_
      have hS0 : Keep (∀ wx, Below B w wx → (fun wx => Below B w wx ∧ wx.cell? ⟨b, off + u * 3, none⟩ = some (.int .i64 c.k) ∧ wx.cell? ⟨b, off + u * 3 + 1, none⟩ = some (.string c.s) ∧ wx.cell? ⟨b, off + (u + 1) * 3, none⟩ = some (.int .i64 d.k) ∧ wx.cell? ⟨b, off + (u + 1) * 3 + 1, none⟩ = some (.string d.s)) wx) := ⟨fun wx hb => by
        have hx := HX0.out.below hb
        exact ⟨hb, (hx.c Hc.out).1, (hx.c Hc.out).2.1, (hx.c Hd.out).1, (hx.c Hd.out).2.1⟩⟩
      have BE : Keep (Below w.heap.size w wq.drew) := ⟨BB.out.drew⟩
      refine wp_region_held_drew (S := fun wx => Below B w wx ∧ wx.cell? ⟨b, off + u * 3, none⟩ = some (.int .i64 c.k) ∧ wx.cell? ⟨b, off + u * 3 + 1, none⟩ = some (.string c.s) ∧ wx.cell? ⟨b, off + (u + 1) * 3, none⟩ = some (.int .i64 d.k) ∧ wx.cell? ⟨b, off + (u + 1) * 3 + 1, none⟩ = some (.string d.s)) (by kernel_rfl) (hS0.out _ (BE.out.mono HB.out)) (fun hHeld => ?_)
      refine wpAnyH_take (i := 0) (oi := ⟨some 27, Op.move (Operand.tmp 0), 23, _, _, none⟩) (v := .slice (some ⟨b, off, none⟩) n cap) rfl (by kernel_rfl) (by kernel_rfl) (by kernel_rfl) (fun _ _ _ h => h) (Or.inl ⟨by rfl, fun w hS => by obtain ⟨hS0_, hS1, hS2, hS3, hS4⟩ := hS; clear hS0_; go_simp⟩) hHeld ?_
      simp only [Act.put, List.setIfInBounds_toArray, List.set_cons_zero, List.set_cons_succ]
      refine wpAnyH_take (i := 1) (oi := ⟨some 28, Op.move (Operand.tmp 5), 3, _, _, none⟩) (v := .int .i64 ((u + 1 : Nat) : Int)) rfl (by kernel_rfl) (by kernel_rfl) (by kernel_rfl) (fun _ _ _ h => h) (Or.inl ⟨by rfl, fun w hS => by obtain ⟨hS0_, hS1, hS2, hS3, hS4⟩ := hS; clear hS0_; go_simp⟩) hHeld ?_
      simp only [Act.put, List.setIfInBounds_toArray, List.set_cons_zero, List.set_cons_succ]
      refine wpAnyH_take (i := 2) (oi := ⟨some 29, Op.binOp BinOp.sub 3 (Operand.tmp 28) (Operand.const (Value.int IntKind.i64 1)) 3, 3, _, _, none⟩) (v := .int .i64 (u : Int)) rfl (by kernel_rfl) (by kernel_rfl) (by kernel_rfl) (fun _ _ _ h => h) (Or.inl ⟨by rfl, fun w hS => by obtain ⟨hS0_, hS1, hS2, hS3, hS4⟩ := hS; clear hS0_; go_simp⟩) hHeld ?_
      simp only [Act.put, List.setIfInBounds_toArray, List.set_cons_zero, List.set_cons_succ]
      refine wpAnyH_take (i := 3) (oi := ⟨some 30, Op.indexAddr 23 (Operand.tmp 27) (Operand.tmp 29), 0, _, _, none⟩) (v := .pointer (some ⟨b, off + u * 3, none⟩)) rfl (by kernel_rfl) (by kernel_rfl) (by kernel_rfl) (fun _ _ _ h => h) (Or.inl ⟨by rfl, fun w hS => by obtain ⟨hS0_, hS1, hS2, hS3, hS4⟩ := hS; clear hS0_; go_simp⟩) hHeld ?_
      simp only [Act.put, List.setIfInBounds_toArray, List.set_cons_zero, List.set_cons_succ]
      refine wpAnyH_take (i := 4) (oi := ⟨some 31, Op.fieldAddr 40 (Operand.tmp 30) 0, 0, _, _, none⟩) (v := .pointer (some ⟨b, off + u * 3, none⟩)) rfl (by kernel_rfl) (by kernel_rfl) (by kernel_rfl) (fun _ _ _ h => h) (Or.inl ⟨by rfl, fun w hS => by obtain ⟨hS0_, hS1, hS2, hS3, hS4⟩ := hS; clear hS0_; go_simp⟩) hHeld ?_
      simp only [Act.put, List.setIfInBounds_toArray, List.set_cons_zero, List.set_cons_succ]
      refine wpAnyH_take (i := 5) (oi := ⟨some 32, Op.load 3 (Operand.tmp 31), 3, _, _, none⟩) (v := .int .i64 c.k) rfl (by kernel_rfl) (by kernel_rfl) (by kernel_rfl) (fun _ _ _ h => h) (Or.inl ⟨by rfl, fun w hS => by obtain ⟨hS0_, hS1, hS2, hS3, hS4⟩ := hS; clear hS0_; go_simp⟩) hHeld ?_
      simp only [Act.put, List.setIfInBounds_toArray, List.set_cons_zero, List.set_cons_succ]
      refine wpAnyH_take (i := 6) (oi := ⟨some 33, Op.move (Operand.tmp 0), 23, _, _, none⟩) (v := .slice (some ⟨b, off, none⟩) n cap) rfl (by kernel_rfl) (by kernel_rfl) (by kernel_rfl) (fun _ _ _ h => h) (Or.inl ⟨by rfl, fun w hS => by obtain ⟨hS0_, hS1, hS2, hS3, hS4⟩ := hS; clear hS0_; go_simp⟩) hHeld ?_
      simp only [Act.put, List.setIfInBounds_toArray, List.set_cons_zero, List.set_cons_succ]
      refine wpAnyH_take (i := 7) (oi := ⟨some 34, Op.move (Operand.tmp 5), 3, _, _, none⟩) (v := .int .i64 ((u + 1 : Nat) : Int)) rfl (by kernel_rfl) (by kernel_rfl) (by kernel_rfl) (fun _ _ _ h => h) (Or.inl ⟨by rfl, fun w hS => by obtain ⟨hS0_, hS1, hS2, hS3, hS4⟩ := hS; clear hS0_; go_simp⟩) hHeld ?_
      simp only [Act.put, List.setIfInBounds_toArray, List.set_cons_zero, List.set_cons_succ]
      refine wpAnyH_take (i := 8) (oi := ⟨some 35, Op.binOp BinOp.sub 3 (Operand.tmp 34) (Operand.const (Value.int IntKind.i64 1)) 3, 3, _, _, none⟩) (v := .int .i64 (u : Int)) rfl (by kernel_rfl) (by kernel_rfl) (by kernel_rfl) (fun _ _ _ h => h) (Or.inl ⟨by rfl, fun w hS => by obtain ⟨hS0_, hS1, hS2, hS3, hS4⟩ := hS; clear hS0_; go_simp⟩) hHeld ?_
      simp only [Act.put, List.setIfInBounds_toArray, List.set_cons_zero, List.set_cons_succ]
      refine wpAnyH_take (i := 9) (oi := ⟨some 36, Op.indexAddr 23 (Operand.tmp 33) (Operand.tmp 35), 0, _, _, none⟩) (v := .pointer (some ⟨b, off + u * 3, none⟩)) rfl (by kernel_rfl) (by kernel_rfl) (by kernel_rfl) (fun _ _ _ h => h) (Or.inl ⟨by rfl, fun w hS => by obtain ⟨hS0_, hS1, hS2, hS3, hS4⟩ := hS; clear hS0_; go_simp⟩) hHeld ?_
      simp only [Act.put, List.setIfInBounds_toArray, List.set_cons_zero, List.set_cons_succ]
      refine wpAnyH_take (i := 10) (oi := ⟨some 37, Op.fieldAddr 40 (Operand.tmp 36) 1, 0, _, _, none⟩) (v := .pointer (some ⟨b, off + u * 3 + 1, none⟩)) rfl (by kernel_rfl) (by kernel_rfl) (by kernel_rfl) (fun _ _ _ h => h) (Or.inl ⟨by rfl, fun w hS => by obtain ⟨hS0_, hS1, hS2, hS3, hS4⟩ := hS; clear hS0_; go_simp⟩) hHeld ?_
      simp only [Act.put, List.setIfInBounds_toArray, List.set_cons_zero, List.set_cons_succ]
      refine wpAnyH_take (i := 11) (oi := ⟨some 38, Op.load 9 (Operand.tmp 37), 9, _, _, none⟩) (v := .string c.s) rfl (by kernel_rfl) (by kernel_rfl) (by kernel_rfl) (fun _ _ _ h => h) (Or.inl ⟨by rfl, fun w hS => by obtain ⟨hS0_, hS1, hS2, hS3, hS4⟩ := hS; clear hS0_; go_simp⟩) hHeld ?_
      simp only [Act.put, List.setIfInBounds_toArray, List.set_cons_zero, List.set_cons_succ]
      refine wpAnyH_take (i := 12) (oi := ⟨some 39, Op.move (Operand.tmp 0), 23, _, _, none⟩) (v := .slice (some ⟨b, off, none⟩) n cap) rfl (by kernel_rfl) (by kernel_rfl) (by kernel_rfl) (fun _ _ _ h => h) (Or.inl ⟨by rfl, fun w hS => by obtain ⟨hS0_, hS1, hS2, hS3, hS4⟩ := hS; clear hS0_; go_simp⟩) hHeld ?_
      simp only [Act.put, List.setIfInBounds_toArray, List.set_cons_zero, List.set_cons_succ]
      refine wpAnyH_take (i := 13) (oi := ⟨some 40, Op.move (Operand.tmp 5), 3, _, _, none⟩) (v := .int .i64 ((u + 1 : Nat) : Int)) rfl (by kernel_rfl) (by kernel_rfl) (by kernel_rfl) (fun _ _ _ h => h) (Or.inl ⟨by rfl, fun w hS => by obtain ⟨hS0_, hS1, hS2, hS3, hS4⟩ := hS; clear hS0_; go_simp⟩) hHeld ?_
      simp only [Act.put, List.setIfInBounds_toArray, List.set_cons_zero, List.set_cons_succ]
      refine wpAnyH_take (i := 14) (oi := ⟨some 41, Op.indexAddr 23 (Operand.tmp 39) (Operand.tmp 40), 0, _, _, none⟩) (v := .pointer (some ⟨b, off + (u + 1) * 3, none⟩)) rfl (by kernel_rfl) (by kernel_rfl) (by kernel_rfl) (fun _ _ _ h => h) (Or.inl ⟨by rfl, fun w hS => by obtain ⟨hS0_, hS1, hS2, hS3, hS4⟩ := hS; clear hS0_; go_simp⟩) hHeld ?_
      simp only [Act.put, List.setIfInBounds_toArray, List.set_cons_zero, List.set_cons_succ]
      refine wpAnyH_take (i := 15) (oi := ⟨some 42, Op.fieldAddr 40 (Operand.tmp 41) 0, 0, _, _, none⟩) (v := .pointer (some ⟨b, off + (u + 1) * 3, none⟩)) rfl (by kernel_rfl) (by kernel_rfl) (by kernel_rfl) (fun _ _ _ h => h) (Or.inl ⟨by rfl, fun w hS => by obtain ⟨hS0_, hS1, hS2, hS3, hS4⟩ := hS; clear hS0_; go_simp⟩) hHeld ?_
      simp only [Act.put, List.setIfInBounds_toArray, List.set_cons_zero, List.set_cons_succ]
      refine wpAnyH_take (i := 16) (oi := ⟨some 43, Op.load 3 (Operand.tmp 42), 3, _, _, none⟩) (v := .int .i64 d.k) rfl (by kernel_rfl) (by kernel_rfl) (by kernel_rfl) (fun _ _ _ h => h) (Or.inl ⟨by rfl, fun w hS => by obtain ⟨hS0_, hS1, hS2, hS3, hS4⟩ := hS; clear hS0_; go_simp⟩) hHeld ?_
      simp only [Act.put, List.setIfInBounds_toArray, List.set_cons_zero, List.set_cons_succ]
      refine wpAnyH_take (i := 17) (oi := ⟨some 44, Op.move (Operand.tmp 0), 23, _, _, none⟩) (v := .slice (some ⟨b, off, none⟩) n cap) rfl (by kernel_rfl) (by kernel_rfl) (by kernel_rfl) (fun _ _ _ h => h) (Or.inl ⟨by rfl, fun w hS => by obtain ⟨hS0_, hS1, hS2, hS3, hS4⟩ := hS; clear hS0_; go_simp⟩) hHeld ?_
      simp only [Act.put, List.setIfInBounds_toArray, List.set_cons_zero, List.set_cons_succ]
      refine wpAnyH_take (i := 18) (oi := ⟨some 45, Op.move (Operand.tmp 5), 3, _, _, none⟩) (v := .int .i64 ((u + 1 : Nat) : Int)) rfl (by kernel_rfl) (by kernel_rfl) (by kernel_rfl) (fun _ _ _ h => h) (Or.inl ⟨by rfl, fun w hS => by obtain ⟨hS0_, hS1, hS2, hS3, hS4⟩ := hS; clear hS0_; go_simp⟩) hHeld ?_
      simp only [Act.put, List.setIfInBounds_toArray, List.set_cons_zero, List.set_cons_succ]
      refine wpAnyH_take (i := 19) (oi := ⟨some 46, Op.indexAddr 23 (Operand.tmp 44) (Operand.tmp 45), 0, _, _, none⟩) (v := .pointer (some ⟨b, off + (u + 1) * 3, none⟩)) rfl (by kernel_rfl) (by kernel_rfl) (by kernel_rfl) (fun _ _ _ h => h) (Or.inl ⟨by rfl, fun w hS => by obtain ⟨hS0_, hS1, hS2, hS3, hS4⟩ := hS; clear hS0_; go_simp⟩) hHeld ?_
      simp only [Act.put, List.setIfInBounds_toArray, List.set_cons_zero, List.set_cons_succ]
      refine wpAnyH_take (i := 20) (oi := ⟨some 47, Op.fieldAddr 40 (Operand.tmp 46) 1, 0, _, _, none⟩) (v := .pointer (some ⟨b, off + (u + 1) * 3 + 1, none⟩)) rfl (by kernel_rfl) (by kernel_rfl) (by kernel_rfl) (fun _ _ _ h => h) (Or.inl ⟨by rfl, fun w hS => by obtain ⟨hS0_, hS1, hS2, hS3, hS4⟩ := hS; clear hS0_; go_simp⟩) hHeld ?_
      simp only [Act.put, List.setIfInBounds_toArray, List.set_cons_zero, List.set_cons_succ]
      refine wpAnyH_take (i := 21) (oi := ⟨some 48, Op.load 9 (Operand.tmp 47), 9, _, _, none⟩) (v := .string d.s) rfl (by kernel_rfl) (by kernel_rfl) (by kernel_rfl) (fun _ _ _ h => h) (Or.inl ⟨by rfl, fun w hS => by obtain ⟨hS0_, hS1, hS2, hS3, hS4⟩ := hS; clear hS0_; go_simp⟩) hHeld ?_
      simp only [Act.put, List.setIfInBounds_toArray, List.set_cons_zero, List.set_cons_succ]
      refine wpAnyH_ready (rs := [22]) (by kernel_rfl) (by simp) ?_
      refine AllReadyH.cons (o := ⟨some 49, Op.call { callee := Callee.value (Operand.func 33), args := #[Operand.tmp 32, Operand.tmp 38, Operand.tmp 43, Operand.tmp 48], argTypes := #[3, 9, 3, 9] }, 4, _, _, none⟩) rfl (fun K hK => ?_) AllReadyH.nil
      rw [if_pos (by rfl)]
      refine wp_callF 33 _ _ rfl Try.in33 #[.int .i64 c.k, .string c.s, .int .i64 d.k, .string d.s] (by simp [Act.eval]) (fun vz wz => vz = .bool (aheI c.k c.s d.k d.s) ∧ wq.drew = wz) ((ahe_any c.k c.s d.k d.s _).mono fun e w' ⟨h1, h2⟩ => ⟨_, h1, rfl, h2.symm⟩) ?_
      rintro _ wg ⟨rfl, hz⟩
      subst hz
      refine hK _ _ (hS0.out _ (BE.out.mono HB.out)) fun hH1 => ?_
      clear hK
      simp only [Act.put, List.setIfInBounds_toArray, List.set_cons_zero, List.set_cons_succ]
      refine wpAnyH_take (i := 23) (oi := ⟨some 6, Op.assign (Operand.tmp 49), 4, _, _, none⟩) (v := .bool (aheI c.k c.s d.k d.s)) rfl (by kernel_rfl) (by kernel_rfl) (by kernel_rfl) (fun _ _ _ h => h) (Or.inl ⟨by rfl, fun w hS => by obtain ⟨hS0_, hS1, hS2, hS3, hS4⟩ := hS; clear hS0_; go_simp⟩) hH1 ?_
      simp only [Act.put, List.setIfInBounds_toArray, List.set_cons_zero, List.set_cons_succ]
      refine wpAnyH_done (by kernel_rfl) ?_ _
      refine hK17 _ _ ?_
      refine wp_seq_k fun K18 hK18 => ?_
      refine wp_region_list (WL.out ?_)
      refine WL.val (by kernel_rfl) (.bool (aheI c.k c.s d.k d.s)) (by go_simp) ?_
      simp only [Act.put, List.setIfInBounds_toArray, List.set_cons_zero, List.set_cons_succ]
      refine WL.val (by kernel_rfl) (.bool (!aheI c.k c.s d.k d.s)) (by go_simp) ?_
      simp only [Act.put, List.setIfInBounds_toArray, List.set_cons_zero, List.set_cons_succ]
      refine WL.nil ?_
      refine hK18 _ _ ?_
      cases hah : aheI c.k c.s d.k d.s
      · simp only [Bool.not_false]
        refine wp_cond_true rfl ?_
        refine wp_seq_k fun K19 hK19 => ?_
        refine wp_region_list (WL.out ?_)
        refine WL.val (by kernel_rfl) (.int .i64 130) (by go_simp) ?_
        simp only [Act.put, List.setIfInBounds_toArray, List.set_cons_zero, List.set_cons_succ]
        refine WL.nil ?_
        refine hK19 _ _ ?_
        refine wp_ret ?_
        go_ret
        exact ⟨by rw [wrongI, okK_yes HKy.out, okO_no Hc.out Hd.out hah]; rfl, BE.out⟩
      · simp only [Bool.not_true]
        have hw5 : IntKind.i64.wrap (((u + 1 : Nat) : Int) + 1) = ((u + 1 + 1 : Nat) : Int) := by rw [IntKind.wrap_i64]; have := HN.out; omega
        have hw7 : IntKind.i64.wrap ((u : Int) + 1 + 1) = (u : Int) + 1 + 1 := by rw [IntKind.wrap_i64]; have := HN.out; omega
        refine wp_cond_false rfl ?_
        refine wp_skip ?_
        refine hK16 _ _ ?_
        refine wp_region_list (WL.out ?_)
        refine WL.val (by kernel_rfl) (.int .i64 ((u + 1 : Nat) : Int)) (by go_simp) ?_
        simp only [Act.put, List.setIfInBounds_toArray, List.set_cons_zero, List.set_cons_succ]
        refine WL.val (by kernel_rfl) (.int .i64 ((u + 1 + 1 : Nat) : Int)) (by go_simp) ?_
        simp only [Act.put, List.setIfInBounds_toArray, List.set_cons_zero, List.set_cons_succ]
        refine WL.val (by kernel_rfl) (.int .i64 ((u + 1 + 1 : Nat) : Int)) (by go_simp) ?_
        simp only [Act.put, List.setIfInBounds_toArray, List.set_cons_zero, List.set_cons_succ]
        refine WL.nil ?_
        refine ⟨⟨u + 1, fun zz => [.slice (some ⟨b, off, none⟩) n cap, undef, g 2, .int .i64 (t : Int), f 4, .int .i64 ((u + 1 + 1 : Nat) : Int), .bool true, .int .i64 (t : Int), .slice (some ⟨b, off, none⟩) n cap, .int .i64 (n : Int), .bool false, f 11, f 12, f 13, f 14, f 15, f 16, f 17, f 18, f 19, f 20, .int .i64 ((u + 1 : Nat) : Int), .slice (some ⟨b, off, none⟩) n cap, .int .i64 (n : Int), .bool true, .int .i64 ((u + 1 : Nat) : Int), .int .i64 ((u + 1 + 1 : Nat) : Int), .slice (some ⟨b, off, none⟩) n cap, .int .i64 ((u + 1 : Nat) : Int), .int .i64 (u : Int), .pointer (some ⟨b, off + u * 3, none⟩), .pointer (some ⟨b, off + u * 3, none⟩), .int .i64 c.k, .slice (some ⟨b, off, none⟩) n cap, .int .i64 ((u + 1 : Nat) : Int), .int .i64 (u : Int), .pointer (some ⟨b, off + u * 3, none⟩), .pointer (some ⟨b, off + u * 3 + 1, none⟩), .string c.s, .slice (some ⟨b, off, none⟩) n cap, .int .i64 ((u + 1 : Nat) : Int), .pointer (some ⟨b, off + (u + 1) * 3, none⟩), .pointer (some ⟨b, off + (u + 1) * 3, none⟩), .int .i64 d.k, .slice (some ⟨b, off, none⟩) n cap, .int .i64 ((u + 1 : Nat) : Int), .pointer (some ⟨b, off + (u + 1) * 3, none⟩), .pointer (some ⟨b, off + (u + 1) * 3 + 1, none⟩), .string d.s, .bool true, .bool true, .bool false].getD zz undef, rfl, by omega, BE.out, fun i x y hi hx hy => ?_⟩, ?_⟩
        · by_cases e : i = u
          · subst e; rw [Hc.out] at hx; rw [Hd.out] at hy; injection hx with hx; injection hy with hy; subst hx hy; exact hah
          · exact HJ.out i x y (by omega) hx hy
        · simp only [intOf]; show n + 1 - (((u + 1 + 1 : Nat) : Int)).toNat < n + 1 - (((u + 1 : Nat) : Int)).toNat; omega
    · have hul' : ¬ ((u + 1 : Nat) : Int) < (n : Int) := by omega
      have hul3 : ¬ (u : Int) + 1 < (n : Int) := by omega
      have HOy : Keep (∀ (i : Nat) (c d : CV), L[i]? = some c → L[i + 1]? = some d → aheI c.k c.s d.k d.s = true) := ⟨fun i c d hc hd => HJ.out i c d (by have := (List.getElem?_eq_some_iff.1 hd).1; rw [hn.out] at this; omega) hc hd⟩
      refine wp_seq_k fun K20 hK20 => ?_
      refine wp_seq_k fun K21 hK21 => ?_
      refine wp_region_list (WL.out ?_)
      refine WL.val (by kernel_rfl) (.int .i64 ((u + 1 : Nat) : Int)) (by go_simp) ?_
      simp only [Act.put, List.setIfInBounds_toArray, List.set_cons_zero, List.set_cons_succ]
      refine WL.val (by kernel_rfl) (.slice la n cap) (by go_simp) ?_
      simp only [Act.put, List.setIfInBounds_toArray, List.set_cons_zero, List.set_cons_succ]
      refine WL.val (by kernel_rfl) (.int .i64 (n : Int)) (by go_simp) ?_
      simp only [Act.put, List.setIfInBounds_toArray, List.set_cons_zero, List.set_cons_succ]
      refine WL.val (by kernel_rfl) (.bool false) (by go_simp) ?_
      simp only [Act.put, List.setIfInBounds_toArray, List.set_cons_zero, List.set_cons_succ]
      refine WL.nil ?_
      refine hK21 _ _ ?_
      refine wp_cond_false rfl ?_
      refine wp_exit ?_
      refine hK12 _ _ ?_
      refine wp_seq_k fun K22 hK22 => ?_
      refine wp_region_list (WL.out ?_)
      refine WL.val (by kernel_rfl) (.int .i64 0) (by go_simp) ?_
      simp only [Act.put, List.setIfInBounds_toArray, List.set_cons_zero, List.set_cons_succ]
      refine WL.nil ?_
      refine hK22 _ _ ?_
      refine wp_ret ?_
      go_ret
      exact ⟨by rw [wrongI, okK_yes HKy.out, okO_yes HOy.out]; rfl, BB.out⟩

theorem CsAt.mono {B B' : Nat} {w : World} {b off : Nat} {L : List CV} (h : CsAt B w b off L) (hB : B ≤ B') : CsAt B' w b off L :=
  ⟨Nat.lt_of_lt_of_le h.lt hB, h.at_, fun c hc => ⟨(h.row c hc).1, fun h0 k hk => Nat.lt_of_lt_of_le ((h.row c hc).2 h0 k hk) hB⟩⟩
theorem CsV.mono {B B' : Nat} {w : World} {v : Value} {L : List CV} (h : CsV B w v L) (hB : B ≤ B') : CsV B' w v L := by
  rcases h with h | ⟨b, off, cap, h1, h2, h3⟩
  · exact .inl h
  · exact .inr ⟨b, off, cap, h1, h2, h3.mono hB⟩
theorem bld_hz : Try.prog.built 25 [] = some (bytesA 32 fun _ => 0) := by kernel_rfl
def Sml (L : List CV) : Prop := ∀ c ∈ L, (c.s.size ≤ 140737488351232 ∧ c.l.length ≤ 140737488351232)
theorem fit_of {L : List CV} (h : okK L = true) (hs : Sml L) : Fit L := fun c hc => by
  have := List.all_eq_true.1 h c hc
  simp [kmay] at this
  exact ⟨by omega, hs c hc⟩
theorem okK_of {L : List CV} (h : wrongI L = 0) : okK L = true := by
  unfold wrongI at h
  cases e : okK L
  · rw [e] at h; simp at h
  · rfl
def rootF (L : List CV) : Nat → Int := if wrongI L = 0 then shaP (rootL L) else fun _ => 0


theorem layUp_rng (s : Nat → Int) : ∀ t i, 0 ≤ layUp s t i ∧ layUp s t i < 256
  | 0, i => by simp [layUp]
  | t + 1, i => by
    have ih := layUp_rng s t i
    simp only [layUp, upd]
    repeat' split
    all_goals first | exact ih | omega
theorem shaP_rng (l : List Int) (i : Nat) : 0 ≤ shaP l i ∧ shaP l i < 256 := layUp_rng _ 8 i
def shaH (l : List Int) : Hs := Hs.mk' (shaP l) fun i _ => shaP_rng l i
theorem shaH_f (l : List Int) (i : Nat) (hi : i < 32) : (shaH l).f i = shaP l i := Hs.mk'_f _ _ i hi
theorem shaH_arr (l : List Int) : bytesA 32 (shaP l) = (encH (shaH l)).toArray := by
  rw [encH_arr]; exact bytesA_congr fun i hi => (shaH_f l i hi).symm

def hsL (h : Hs) : List Int := hl 32 h.f
theorem shaH_L (l : List Int) : hsL (shaH l) = shaL l := by
  simp only [hsL, shaL, hl]
  exact List.map_congr_left fun i hi => shaH_f l i (List.mem_range.1 hi)
theorem tree_hs {k : Nat} {L : List CV} (h1 : 1 ≤ L.length) (h2 : L.length ≤ k) : ∃ h : Hs, hsL h = treeL k L ∧ bytesA 32 (hof (treeL k L)) = (encH h).toArray := by
  obtain ⟨row, e⟩ : ∃ row, treeL k L = shaL row := by
    match k, h2 with
    | 0, h2 => omega
    | k + 1, _ =>
      unfold treeL RtP.tree
      split <;> exact ⟨_, rfl⟩
  refine ⟨shaH row, by rw [shaH_L, e], ?_⟩
  rw [e, shaL, hof_hl, shaH_arr]
def pathL (k : Nat) (L : List CV) (i : Nat) : List (List Int) := RtP.path shaL numL k (L.map CV.ce) i
theorem pathL_one (k : Nat) (c : CV) (i : Nat) : pathL (k + 1) [c] i = [] := by simp [pathL, RtP.path]
theorem pathL_lo {k : Nat} {L : List CV} {i : Nat} (h : ¬ L.length ≤ 1) (hi : i < RtP.half L.length) : pathL (k + 1) L i = pathL k (L.take (RtP.half L.length)) i ++ [treeL k (L.drop (RtP.half L.length))] := by
  unfold pathL treeL
  rw [RtP.path, if_neg (by simpa using h), if_pos (by simpa using hi)]
  simp [List.map_take, List.map_drop]
theorem pathL_hi {k : Nat} {L : List CV} {i : Nat} (h : ¬ L.length ≤ 1) (hi : ¬ i < RtP.half L.length) : pathL (k + 1) L i = pathL k (L.drop (RtP.half L.length)) (i - RtP.half L.length) ++ [treeL k (L.take (RtP.half L.length))] := by
  unfold pathL treeL
  rw [RtP.path, if_neg (by simpa using h), if_neg (by simpa using hi)]
  simp [List.map_take, List.map_drop]
theorem pathL_len : ∀ (k : Nat) (L : List CV) (i : Nat), (pathL k L i).length ≤ k
  | 0, L, i => by simp [pathL, RtP.path]
  | k + 1, L, i => by
    by_cases h : L.length ≤ 1
    · unfold pathL RtP.path
      rw [if_pos (by simpa using h)]
      simp
    · by_cases hi : i < RtP.half L.length
      · rw [pathL_lo h hi, List.length_append, List.length_singleton]
        have := pathL_len k (L.take (RtP.half L.length)) i
        omega
      · rw [pathL_hi h hi, List.length_append, List.length_singleton]
        have := pathL_len k (L.drop (RtP.half L.length)) (i - RtP.half L.length)
        omega

end Go.Proofs.Ytjklmkeedhgncaa
