import Derived.Test.YtdpcjfafbmhceaaA18
import Derived.Test.YtdpcjfafbmhceaaA19
import Derived.Test.YtdpcjfafbmhceaaA09
import Derived.Test.YtdpcjfafbmhceaaA05
namespace Go.Proofs.Ytdpcjfafbmhceaa
open Go.RowKit
set_option linter.unusedSimpArgs false
set_option linter.unusedVariables false
structure FdK (L : List CV) (kind : Int) (at_ : Nat) (key : ByteArray) (n : Int) (ls : List LV) (er : Int) : Prop where
 a1 : zi kind = false → n = 0 ∧ ls = [] ∧ er = 40
 a2 : zi kind = true → qt L ≠ 0 → n = 0 ∧ ls = [] ∧ er = qt L
 a3 : (zi kind = true → qt L = 0 → n = (L.length : Int) ∧ er = 0 ∧ (L = [] → ls = []) ∧ (L ≠ [] → ls.length = (fnd L.length at_ (fndB L at_ kind key)).length ∧ LIs L (fnd L.length at_ (fndB L at_ kind key)) ls))
theorem vm : ∀ {x y : List Hs}, x.map hsL = y.map hsL → x = y
 | [], [], _ => rfl
 | [], _ :: _, h => by simp at h
 | _ :: _, [], h => by simp at h
 | a :: x, b :: y, h => by
  simp only [List.map_cons, List.cons.injEq] at h
  rw [Vp h.1, vm h.2]
theorem FdK.same {L : List CV} {kind : Int} {at_ : Nat} {key : ByteArray} {n m : Int} {ls ms : List LV} {e f : Int} (a : FdK L kind at_ key n ls e) (b : FdK L kind at_ key m ms f) : e = f ∧ QD n ls m ms := by
 cases hk : zi kind
 ·obtain ⟨rfl, rfl, rfl⟩ := a.a1 hk
  obtain ⟨rfl, rfl, rfl⟩ := b.a1 hk
  exact ⟨rfl, rfl, rfl, fun i x y h => by simp at h⟩
 ·by_cases hw : qt L = 0
  ·obtain ⟨rfl, rfl, x1, x2⟩ := a.a3 hk hw
   obtain ⟨rfl, rfl, y1, y2⟩ := b.a3 hk hw
   refine ⟨rfl, rfl, ?_⟩
   by_cases hl : L = []
   ·rw [x1 hl, y1 hl]; exact ⟨rfl, fun i x y h => by simp at h⟩
   ·obtain ⟨l1, i1⟩ := x2 hl
    obtain ⟨l2, i2⟩ := y2 hl
    refine ⟨l1.trans l2.symm, fun i x y hx hy => ?_⟩
    have hi : i < (fnd L.length at_ (fndB L at_ kind key)).length := by rw [← l1]; exact (List.getElem?_eq_some_iff.mp hx).1
    have hg := List.getElem?_eq_getElem hi
    obtain ⟨p1, ⟨c, p2, p3, p4, p5⟩, p6⟩ := i1 i _ x hg hx
    obtain ⟨q1, ⟨d, q2, q3, q4, q5⟩, q6⟩ := i2 i _ y hg hy
    obtain rfl : c = d := Option.some.inj (p2.symm.trans q2)
    have hp : x.ps = y.ps := vm (p6.trans q6.symm)
    simp [jR, jr, p1, q1, p3, q3, p4, q4, p5, q5, hp]
  ·obtain ⟨rfl, rfl, rfl⟩ := a.a2 hk hw
   obtain ⟨rfl, rfl, rfl⟩ := b.a2 hk hw
   exact ⟨rfl, rfl, rfl, fun i x y h => by simp at h⟩
theorem FdK.sizes {L : List CV} {kind : Int} {at_ : Nat} {key : ByteArray} {n : Int} {ls : List LV} {e : Int} (a : FdK L kind at_ key n ls e) (ha : at_ ≤ L.length) :
  ls.length ≤ 2 ∧ ∀ x ∈ ls, x.ps.length ≤ L.length ∧ ∃ c ∈ L, x.c.k = c.k ∧ x.c.s = c.s ∧ x.c.l = c.l := by
 have hnil : ls = [] → ls.length ≤ 2 ∧ ∀ x ∈ ls, x.ps.length ≤ L.length ∧ ∃ c ∈ L, x.c.k = c.k ∧ x.c.s = c.s ∧ x.c.l = c.l := fun h => by subst h; exact ⟨by simp, fun x hx => by simp at hx⟩
 cases hk : zi kind
 ·exact hnil (a.a1 hk).2.1
 ·by_cases hw : qt L = 0
  ·obtain ⟨_, _, x1, x2⟩ := a.a3 hk hw
   by_cases hl : L = []
   ·exact hnil (x1 hl)
   ·obtain ⟨l1, i1⟩ := x2 hl
    refine ⟨by rw [l1]; exact (XC (by have := List.length_pos_iff.mpr hl; omega) ha).2, fun x hx => ?_⟩
    obtain ⟨i, hi, rfl⟩ := List.getElem_of_mem hx
    have hg := List.getElem?_eq_getElem (show i < (fnd L.length at_ (fndB L at_ kind key)).length by rw [← l1]; exact hi)
    obtain ⟨_, ⟨c, p2, p3, p4, p5⟩, p6⟩ := i1 i _ _ hg (List.getElem?_eq_getElem hi)
    have h := congrArg List.length p6
    rw [List.length_map] at h
    have := jS L.length L ((fnd L.length at_ (fndB L at_ kind key))[i]'(by rw [← l1]; exact hi))
    exact ⟨by omega, c, List.mem_of_getElem? p2, p3, p4, p5⟩
  ·exact hnil (a.a2 hk hw).2.1
theorem FdK.len {L : List CV} {kind : Int} {at_ : Nat} {key : ByteArray} {n : Int} {ls : List LV} {e : Int} (a : FdK L kind at_ key n ls e) (hN : L.length ≤ 2097152) : 0 ≤ n ∧ n < 9223372036854775808 := by
 cases hk : zi kind
 ·rw [(a.a1 hk).1]; decide
 ·by_cases hw : qt L = 0
  ·rw [(a.a3 hk hw).1]; omega
  ·rw [(a.a2 hk hw).1]; decide
structure Alike (M L : List CV) : Prop where
 len : M.length = L.length
 each : ∀ (i : Nat) (c : CV), M[i]? = some c → ∃ d, L[i]? = some d ∧ c.k = d.k ∧ c.s = d.s ∧ c.l = d.l
def bare (c : CV) : CV := ⟨c.k, c.s, .slice none 0 0, c.l⟩
theorem Alike.bare {M L : List CV} (h : Alike M L) : M.map bare = L.map bare := by
 refine List.ext_getElem? fun i => ?_
 rw [List.getElem?_map, List.getElem?_map]
 cases e : M[i]? with
 | none =>
  have h1 := List.getElem?_eq_none_iff.mp e
  rw [List.getElem?_eq_none_iff.mpr (by rw [← h.len]; exact h1)]
 | some c =>
  obtain ⟨d, e2, h1, h2, h3⟩ := h.each i c e
  rw [e2]
  simp [Go.Proofs.Ytdpcjfafbmhceaa.bare, h1, h2, h3]
theorem KP (L : List CV) : okK (L.map bare) = okK L := by
 unfold okK
 rw [List.all_map]
 rfl
theorem kg : ∀ (L : List CV), okO (L.map bare) = okO L
 | [] => rfl
 | [_] => rfl
 | a :: b :: r => by
  have h := kg (b :: r)
  simp only [List.map_cons] at h ⊢
  simp only [okO]
  rw [h]
  rfl
theorem XM (L : List CV) : (L.map bare).map CV.ce = L.map CV.ce := by
 rw [List.map_map]
 rfl
theorem Alike.wrong {M L : List CV} (h : Alike M L) : qt M = qt L := by
 unfold qt
 rw [← KP M, ← kg M, h.bare, KP, kg]
theorem Alike.ce {M L : List CV} (h : Alike M L) : M.map CV.ce = L.map CV.ce := by rw [← XM M, h.bare, XM]
theorem Alike.fndB {M L : List CV} (h : Alike M L) (i : Nat) (kind : Int) (key : ByteArray) : fndB M i kind key = fndB L i kind key := by
 unfold Go.Proofs.Ytdpcjfafbmhceaa.fndB
 cases e : M[i]? with
 | none =>
  have h1 := List.getElem?_eq_none_iff.mp e
  rw [List.getElem?_eq_none_iff.mpr (by rw [← h.len]; exact h1)]
 | some c =>
  obtain ⟨d, e2, h1, h2, h3⟩ := h.each i c e
  rw [e2]
  simp only [h1, h2]
theorem Alike.nil {M L : List CV} (h : Alike M L) : M = [] ↔ L = [] := by
 rw [← List.length_eq_zero_iff, ← List.length_eq_zero_iff, h.len]
theorem Alike.lis {M L : List CV} (h : Alike M L) {ns : List Nat} {ls : List LV} (hl : LIs M ns ls) : LIs L ns ls := fun j k x hj hx => by
 obtain ⟨h1, ⟨c, h2, h3, h4, h5⟩, h6⟩ := hl j k x hj hx
 obtain ⟨d, e1, e2, e3, e4⟩ := h.each k c h2
 refine ⟨h1, ⟨d, e1, h3.trans e2, h4.trans e3, h5.trans e4⟩, ?_⟩
 rw [h6]
 unfold zG
 rw [h.ce, h.len]
theorem Alike.fdk {M L : List CV} (h : Alike M L) {kind : Int} {at_ : Nat} {key : ByteArray} {n : Int} {ls : List LV} {er : Int} (a : FdK M kind at_ key n ls er) : FdK L kind at_ key n ls er :=
 ⟨a.a1, fun h1 h2 => by rw [← h.wrong] at h2 ⊢; exact a.a2 h1 h2, fun h1 h2 => by
  rw [← h.wrong] at h2
  obtain ⟨b1, b2, b3, b4⟩ := a.a3 h1 h2
  refine ⟨by rw [b1, h.len], b2, fun h3 => b3 (h.nil.mpr h3), fun h3 => ?_⟩
  obtain ⟨c1, c2⟩ := b4 fun e => h3 (h.nil.mp e)
  rw [h.len, h.fndB] at c1 c2
  exact ⟨c1, h.lis c2⟩⟩
theorem Alike.sml {M L : List CV} (h : Alike M L) (hs : Sml L) : Sml M := fun c hc => by
 obtain ⟨i, hi⟩ := List.getElem?_of_mem hc
 obtain ⟨d, e1, e2, e3, e4⟩ := h.each i c hi
 rw [e3, e4]
 exact hs d (List.mem_of_getElem? e1)
theorem Alike.at_ {M L : List CV} (h : Alike M L) {kind : Int} {key : ByteArray} {at_ : Nat} (ha : qt L = 0 → ∀ (i : Nat) (c : CV), L[i]? = some c → (stI c.k c.s kind key < 0 ↔ i < at_)) : qt M = 0 → ∀ (i : Nat) (c : CV), M[i]? = some c → (stI c.k c.s kind key < 0 ↔ i < at_) := fun hw i c hc => by
 obtain ⟨d, e1, e2, e3, e4⟩ := h.each i c hc
 rw [e2, e3]
 exact ha (by rw [← h.wrong]; exact hw) i d e1
theorem OwAt.alike {B : Nat} {L : List CV} {w : World} {v : Value} {OW : List CV} (h : OwAt B L w v OW) : Alike OW L := ⟨h.len, h.each⟩
theorem Ut (L : List CV) (kind : Int) (key : ByteArray) : ∃ at_, at_ ≤ L.length ∧ (qt L = 0 → ∀ (i : Nat) (c : CV), L[i]? = some c → (stI c.k c.s kind key < 0 ↔ i < at_)) := by
 by_cases hW : qt L = 0
 ·obtain ⟨a, h1, h2⟩ := Dt kind key hW
  exact ⟨a, h1, fun _ => h2⟩
 ·exact ⟨0, Nat.zero_le _, fun h => absurd h hW⟩
theorem Zq {w : World} {B : Nat} {v : Value} {ls : List LV} (h1 : w.ownsRow B 54 5 v ls.length (ls.flatMap fun x => (lvA x).toList)) (h2 : ∀ x ∈ ls, Own w x.c.v x.c.l ∧ w.ownsRow B 32 32 x.pv x.ps.length (qF x.ps)) (h3 : ∀ x ∈ ls, ∀ k, x.c.v.ownBlock = some k → B ≤ k) : ∀ k, spS v ls k → B ≤ k ∧ k < w.heap.size := fun k hk => by
 rcases hk with e | ⟨x, hx, e | e⟩
 ·exact ⟨jK h1 e, (qn h1 e).lt⟩
 ·exact ⟨h3 x hx k e, (h2 x hx).1.lt k e⟩
 ·exact ⟨jK (h2 x hx).2 e, (qn (h2 x hx).2 e).lt⟩
theorem WtN.iv {w : World} {B : Nat} {v : Value} {ls : List LV} (h : WtN w B v ls) : ∀ k, spS v ls k → B ≤ k ∧ k < w.heap.size := Zq h.own h.rows h.nv
theorem WtF.iv {w : World} {B : Nat} {v : Value} {ls : List LV} (h : WtF w B v ls) : ∀ k, spS v ls k → B ≤ k ∧ k < w.heap.size := Zq h.own h.rows h.vB
theorem WtF.lsv {w : World} {B : Nat} {v : Value} {ls : List LV} (h : WtF w B v ls) : LsV w.heap.size w v ls := KS h.own h.rows
theorem WtN.grown {w w' : World} {B : Nat} {v : Value} {ls : List LV} {S : Nat → Prop} (h : WtN w B v ls) (hg : Grown w w' S) (hs : ∀ k, spS v ls k → ¬ S k) : WtN w' B v ls :=
 ⟨qo h.own hg fun k hk => hs k (.inl hk), fun x hx => ⟨(h.rows x hx).1.grown hg fun k hk => hs k (.inr ⟨x, hx, .inl hk⟩), qo (h.rows x hx).2 hg fun k hk => hs k (.inr ⟨x, hx, .inr hk⟩)⟩, h.nv, h.av, h.ap⟩
theorem WtF.grown {w w' : World} {B : Nat} {v : Value} {ls : List LV} {S : Nat → Prop} (h : WtF w B v ls) (hg : Grown w w' S) (hs : ∀ k, spS v ls k → ¬ S k) : WtF w' B v ls :=
 ⟨qo h.own hg fun k hk => hs k (.inl hk), fun x hx => ⟨(h.rows x hx).1.grown hg fun k hk => hs k (.inr ⟨x, hx, .inl hk⟩), qo (h.rows x hx).2 hg fun k hk => hs k (.inr ⟨x, hx, .inr hk⟩)⟩, h.vB⟩
theorem CpAt.iv {B : Nat} {ls : List LV} {w : World} {v : Value} {OL : List LV} (h : CpAt B ls w v OL) : ∀ k, spS v OL k → B ≤ k ∧ k < w.heap.size := fun k hk => by
 rcases hk with e | ⟨x, hx, e | e⟩
 ·obtain ⟨g, cap, rfl, ho⟩ := h.own
  exact ⟨jK ho e, (qn ho e).lt⟩
 ·obtain ⟨h1, k', h2, h3⟩ := h.val x hx
  rw [h2] at e
  cases e
  exact ⟨h3, (h1.typ h2).lt⟩
 ·obtain ⟨g, cap, e2, ho⟩ := (h.pth x hx).ex
  rw [e2] at e
  exact ⟨jK ho e, (qn ho e).lt⟩
theorem CpAt.grown {B : Nat} {ls : List LV} {w w' : World} {v : Value} {OL : List LV} {S : Nat → Prop} (h : CpAt B ls w v OL) (hg : Grown w w' S) (hs : ∀ k, spS v OL k → ¬ S k) : CpAt B ls w' v OL := by
 have h' := h
 obtain ⟨g, cap, rfl, ho⟩ := h.own
 exact ⟨h'.len, ⟨g, cap, rfl, qo ho hg fun k hk => hs k (.inl hk)⟩, h'.each, fun y hy => ⟨(h'.val y hy).1.grown hg fun k hk => hs k (.inr ⟨y, hy, .inl hk⟩), (h'.val y hy).2⟩, fun y hy => (h'.pth y hy).grown hg fun k hk => hs k (.inr ⟨y, hy, .inr hk⟩)⟩
def owS (v : Value) (OW : List CV) (k : Nat) : Prop := v.ownBlock = some k ∨ ∃ c ∈ OW, c.v.ownBlock = some k
theorem OwAt.iv {B : Nat} {L : List CV} {w : World} {v : Value} {OW : List CV} (h : OwAt B L w v OW) : ∀ k, owS v OW k → B ≤ k ∧ k < w.heap.size := fun k hk => by
 rcases hk with e | ⟨c, hc, e⟩
 ·obtain ⟨g, cap, rfl, ho⟩ := h.own
  exact ⟨jK ho e, (qn ho e).lt⟩
 ·obtain ⟨h1, k', h2, h3⟩ := h.wid c hc
  rw [h2] at e
  cases e
  exact ⟨h3, (h1.typ h2).lt⟩
def flB (z : Int) : Int := bits .xor .u8 z 1
def flV (t u i j : Nat) (z : Int) : Int := if t < i ∨ (t = i ∧ u < j) then flB z else z
def flC (c : CV) : CV := ⟨c.k, c.s, c.v, c.l.map flB⟩
structure FlAt (w : World) (v : Value) (OW : List CV) (i j : Nat) : Prop where
 own : ∃ B g cap, v = .slice (some ⟨g, 0, none⟩) OW.length cap ∧ w.ownsRow B 44 3 (.slice (some ⟨g, 0, none⟩) (OW.length + 1) cap) (OW.length + 1) (OW.flatMap cvL ++ mkC)
 val : ∀ (t : Nat) (c : CV), OW[t]? = some c → ∃ g cap cur, c.v = .slice (some ⟨g, 0, none⟩) c.l.length cap ∧ Blk w g 5 cur ∧ c.l.length ≤ cap ∧ ∀ u, u < c.l.length → cur[u]? = some (.int .u8 (flV t u i j (c.l.getD u 0)))
 apt : ∀ (i j : Nat) (c d : CV), OW[i]? = some c → OW[j]? = some d → i ≠ j → ∀ k, c.v.ownBlock = some k → d.v.ownBlock ≠ some k
theorem OwAt.fl {B : Nat} {L : List CV} {w : World} {v : Value} {OW : List CV} (h : OwAt B L w v OW) : FlAt w v OW 0 0 := by
 obtain ⟨g, cap, e, ho⟩ := h.own
 refine ⟨⟨B, g, cap, e, ho⟩, fun t c hc => ?_, h.apt⟩
 obtain ⟨g', cap', e', h1, h2, h3, cur, h4, h5⟩ := (h.wid c (List.mem_of_getElem? hc)).1.cap
 refine ⟨g', cap', cur, e', h4, by omega, fun u hu => ?_⟩
 have h6 := h3 u (by omega)
 rw [List.getD_eq_getElem?_getD, List.getElem?_append_left hu, ← List.getD_eq_getElem?_getD] at h6
 have h7 : ¬ (t < 0 ∨ (t = 0 ∧ u < 0)) := by omega
 unfold flV
 rw [if_neg h7]
 have hlt : u < cur.size := by omega
 have h8 := h4.c u (Array.getElem?_eq_getElem hlt)
 rw [h6] at h8
 rw [Array.getElem?_eq_getElem hlt, h8]
theorem FlAt.row {w : World} {v : Value} {OW : List CV} {i : Nat} {c : CV} (h : FlAt w v OW i c.l.length) (hc : OW[i]? = some c) : FlAt w v OW (i + 1) 0 := by
 refine ⟨h.own, fun t d hd => ?_, h.apt⟩
 obtain ⟨g, cap, cur, e, h1, h2, h3⟩ := h.val t d hd
 refine ⟨g, cap, cur, e, h1, h2, fun u hu => ?_⟩
 rw [h3 u hu]
 unfold flV
 by_cases ht : t = i
 ·subst ht
  rw [hc] at hd
  cases hd
  rw [if_pos (.inr ⟨rfl, hu⟩), if_pos (.inl (by omega))]
 ·by_cases h4 : t < i
  ·rw [if_pos (.inl h4), if_pos (.inl (by omega))]
  ·rw [if_neg (by omega), if_neg (by omega)]
theorem FlAt.step {w : World} {v : Value} {OW : List CV} {i j : Nat} {c : CV} (h : FlAt w v OW i j) (hc : OW[i]? = some c) (hj : j < c.l.length) : ∃ g cap cur, c.v = .slice (some ⟨g, 0, none⟩) c.l.length cap ∧ Blk w g 5 cur ∧ cur[j]? = some (.int .u8 (c.l.getD j 0)) ∧ c.l.length ≤ cap ∧ FlAt (w.setCell ⟨g, j, none⟩ (.int .u8 (flB (c.l.getD j 0)))) v OW i (j + 1) := by
 obtain ⟨g, cap, cur, e, h1, h2, h3⟩ := h.val i c hc
 have h4 := h3 j hj
 unfold flV at h4
 rw [if_neg (by omega)] at h4
 refine ⟨g, cap, cur, e, h1, h4, h2, ?_⟩
 have hg : Grown w (w.setCell ⟨g, j, none⟩ (.int .u8 (flB (c.l.getD j 0)))) (fun k => k = g) := Grown.setCell w g j _ fun _ => rfl
 obtain ⟨B, g2, cap2, e2, ho⟩ := h.own
 refine ⟨⟨B, g2, cap2, e2, qo ho hg fun k hk e3 => by subst e3; exact absurd ((qn ho hk).one h1.typ) (by decide)⟩, fun t d hd => ?_, h.apt⟩
 by_cases ht : t = i
 ·subst ht
  rw [hc] at hd
  cases hd
  refine ⟨g, cap, _, e, h1.set j _, h2, fun u hu => ?_⟩
  by_cases huj : j = u
  ·subst huj
   have hlt : j < cur.size := (Array.getElem?_eq_some_iff.mp h4).1
   rw [Array.getElem?_setIfInBounds_self_of_lt hlt]
   unfold flV
   rw [if_pos (.inr ⟨rfl, by omega⟩)]
  ·rw [Array.getElem?_setIfInBounds_ne huj, h3 u hu]
   unfold flV
   by_cases h5 : u < j
   ·rw [if_pos (.inr ⟨rfl, h5⟩), if_pos (.inr ⟨rfl, by omega⟩)]
   ·rw [if_neg (by omega), if_neg (by omega)]
 ·obtain ⟨g', cap', cur', e', k1, k2, k3⟩ := h.val t d hd
  have hne : ¬ g' = g := fun e5 => by
   subst e5
   exact h.apt t i d c hd hc ht g' (by rw [e']; simp [Value.ownBlock]) (by rw [e]; simp [Value.ownBlock])
  refine ⟨g', cap', cur', e', hg.blk k1 hne, k2, fun u hu => ?_⟩
  rw [k3 u hu]
  unfold flV
  by_cases h5 : t < i
  ·rw [if_pos (.inl h5), if_pos (.inl h5)]
  ·rw [if_neg (by omega), if_neg (by omega)]
theorem FlAt.csv {w : World} {v : Value} {OW : List CV} (h : FlAt w v OW OW.length 0) : CsV w.heap.size w v (OW.map flC) := by
 obtain ⟨B, g, cap, rfl, ho⟩ := h.own
 have hc := jE ho
 refine .inr ⟨g, 0, cap, by rw [List.length_map], by rw [List.length_map]; omega, hc.2.2, fun i c' hi j u hu => ?_, fun c' hc' => ?_⟩
 ·rw [List.getElem?_map] at hi
  obtain ⟨c, hci, rfl⟩ := Option.map_eq_some_iff.1 hi
  have hu' : (cvL c)[j]? = some u := hu
  have hj := (List.getElem?_eq_some_iff.mp (KY OW i c hci j u hu')).1
  have h1 := World.ownsRow.cells (g := g) ho rfl (i * 3 + j) u (by rw [List.getElem?_append_left hj]; exact KY OW i c hci j u hu')
  rw [Addr.add_mid] at h1
  rw [Nat.zero_add]
  rw [Nat.zero_add] at h1
  exact h1
 ·obtain ⟨c, hcm, rfl⟩ := List.mem_map.mp hc'
  obtain ⟨t, ht⟩ := List.getElem?_of_mem hcm
  obtain ⟨g', cap', cur, e, h1, h2, h3⟩ := h.val t c ht
  have htl := (List.getElem?_eq_some_iff.mp ht).1
  refine ⟨.inr (.inr ⟨g', 0, cap', by show c.v = _; rw [e]; simp [flC], by simpa [flC] using h2, fun u hu => ?_⟩), fun _ k hk => ?_⟩
  ·have hu' : u < c.l.length := by simpa [flC] using hu
   have h4 := h3 u hu'
   unfold flV at h4
   rw [if_pos (.inl htl)] at h4
   have h5 := h1.c u h4
   rw [Nat.zero_add, h5]
   simp [flC, List.getD_eq_getElem?_getD, List.getElem?_map, List.getElem?_eq_getElem hu']
  ·have hk' : c.v.ownBlock = some k := hk
   rw [e] at hk'
   simp [Value.ownBlock] at hk'
   subst hk'
   exact h1.lt
theorem GJ {OW : List CV} (h : Sml OW) : Sml (OW.map flC) := fun c hc => by
 obtain ⟨d, hd, rfl⟩ := List.mem_map.mp hc
 simpa [flC] using h d hd
theorem Vc (L : List CV) : ∃ r : Hs, qb 32 (qJ L) = qb 32 r.f := by
 have hr : ∀ i, i < 32 → 0 ≤ qJ L i ∧ qJ L i < 256 := fun i hi => by
  unfold qJ
  split
  ·exact KE _ i
  ·exact ⟨Int.le_refl _, (by decide : (0 : Int) < 256)⟩
 exact ⟨Hs.mk' (qJ L) hr, jd fun i hi => (Hs.mk'_f _ _ i hi).symm⟩
theorem FdK.sml {L : List CV} {kind : Int} {at_ : Nat} {key : ByteArray} {n : Int} {ls : List LV} {e : Int} (a : FdK L kind at_ key n ls e) (ha : at_ ≤ L.length) (hS : Sml L) (hN : L.length ≤ 2097152) : SmL ls := fun x hx => by
 obtain ⟨h1, c, hc, h2, h3, h4⟩ := (a.sizes ha).2 x hx
 have h5 := hS c hc
 rw [h3, h4]
 exact ⟨h5, by omega⟩
theorem FdK.few {L : List CV} {kind : Int} {at_ : Nat} {key : ByteArray} {n : Int} {ls : List LV} {e : Int} (a : FdK L kind at_ key n ls e) (ha : at_ ≤ L.length) (hf : yY L = true) : ls.length ≤ 200 ∧ ∀ x ∈ ls, x.c.l.length ≤ 134217728 ∧ x.ps.length ≤ 10000000 := by
 have hs := a.sizes ha
 have hN := xV hf
 refine ⟨by omega, fun x hx => ?_⟩
 obtain ⟨h1, c, hc, h2, h3, h4⟩ := hs.2 x hx
 obtain ⟨i, hi⟩ := List.getElem?_of_mem hc
 have := yI hf hi
 rw [h4]
 omega
theorem WideAt.own {w : World} {v : Value} {l : List Int} (h : WideAt w v l) : Own w v l := by
 obtain ⟨g, cap, rfl, h2⟩ := h
 rcases h2.form with ⟨e, _⟩ | ⟨g', cap', cur, e, hb, h3, h4, h5, h6⟩
 ·cases e
 ·cases e
  rw [List.length_append, jl] at h3
  refine Own.mk hb (by omega) h4 h5 ?_
  have h7 := congrArg (List.take l.length) h6
  rw [ve, List.take_take, List.length_append, Nat.min_eq_left (by omega)] at h7
  rw [h7, List.take_append_of_le_length (by rw [qY]; exact Nat.le_refl _), List.take_of_length_le (by rw [qY]; exact Nat.le_refl _)]
theorem Ko {root : Hs} {n kind : Int} {key : ByteArray} {ls : List LV} (h : xp root n kind key ls = true) : xY root n kind key ls = 0 ∧ ∃ x, ls = [x] := by
 unfold xp at h
 simp only [Bool.and_eq_true, decide_eq_true_eq] at h
 refine ⟨h.1, ?_⟩
 have h2 := h.2
 unfold jq at h2
 split at h2
 ·exact ⟨_, rfl⟩
 ·cases h2
theorem CpAt.sml {B : Nat} {ls : List LV} {w : World} {v : Value} {OL : List LV} (h : CpAt B ls w v OL) (hs : SmL ls) : SmL OL := fun y hy => by
 obtain ⟨i, hi⟩ := List.getElem?_of_mem hy
 obtain ⟨x, hx, he⟩ := h.each i y hi
 rw [he.s, he.l, he.p]
 exact hs x (List.mem_of_getElem? hx)
end Go.Proofs.Ytdpcjfafbmhceaa
