import Derived.Test.YtjklmkeedhgncaaA03
import Derived.Deep.RegionHeld3
namespace Go.Proofs.Ytjklmkeedhgncaa
open Go.RowKit
set_option linter.unusedSimpArgs false
set_option linter.unusedVariables false
def le8 (n : Nat) : List Int := (List.range 8).map fun t => (n : Int) / 2 ^ (8 * t) % 256
theorem le8_len (n : Nat) : (le8 n).length = 8 := by simp [le8]

structure CV where
  k : Int
  s : ByteArray
  v : Value
  l : List Int
def CV.ce (c : CV) : RtP.CE := ⟨c.k.toNat, lst c.s, c.l⟩
def cvL (c : CV) : List Value := [.int .i64 c.k, .string c.s, c.v]
structure CsAt (B : Nat) (w : World) (b off : Nat) (L : List CV) : Prop where
  lt : b < B
  at_ : ∀ (i : Nat) (c : CV), L[i]? = some c → w.rangeAt b (off + i * 3) (cvL c)
  row : ∀ c ∈ L, RowAt w c.v c.l ∧ (c.l ≠ [] → ∀ k, c.v.ownBlock = some k → k < B)
theorem Grown.ofBelow {B : Nat} {w w' : World} (h : Below B w w') : Grown w w' (fun k => B ≤ k) := ⟨h.os, h.tape, h.output, h.size, fun i _ hs => h.block i (by omega)⟩
theorem CsAt.below {B : Nat} {w w' : World} {b off : Nat} {L : List CV} (h : CsAt B w b off L) (hb : Below B w w') : CsAt B w' b off L :=
  ⟨h.lt, fun i c hc => rangeAt_below (h.at_ i c hc) hb h.lt, fun c hc => ⟨(by
    by_cases h0 : c.l = []
    · have h1 := (h.row c hc).1
      rw [h0] at h1 ⊢
      exact row_nil h1
    · exact (h.row c hc).1.grown (Grown.ofBelow hb) fun k hk e => by have := (h.row c hc).2 h0 k hk; omega), (h.row c hc).2⟩⟩
def shaL (l : List Int) : List Int := hl 32 (shaP l)
theorem shaL_len (l : List Int) : (shaL l).length = 32 := by simp [shaL, hl_len]
theorem hl_hof {l : List Int} (h : l.length = 32) : hl 32 (hof l) = l := by
  refine List.ext_getElem (by simp [hl_len, h]) fun i h1 h2 => ?_
  simp [hl, hof, List.getD_eq_getElem?_getD, h2]
theorem hof_hl (f : Nat → Int) : bytesA 32 (hof (hl 32 f)) = bytesA 32 f := bytesA_congr fun i hi => by
  simp [hof, hl, List.getD_eq_getElem?_getD, hi]
def treeL (k : Nat) (L : List CV) : List Int := RtP.tree shaL numL k (L.map CV.ce)
theorem treeL_len {k : Nat} {L : List CV} (h1 : 1 ≤ L.length) (h2 : L.length ≤ k) : (treeL k L).length = 32 := RtP.tree_len shaL numL shaL_len k _ (by simpa using h1) (by simpa using h2)
theorem treeL_one (k : Nat) (c : CV) : treeL (k + 1) [c] = shaL (RtP.leafR numL c.ce) := by simp [treeL, RtP.tree]
theorem treeL_two {k : Nat} {L : List CV} (h : ¬ L.length ≤ 1) : treeL (k + 1) L = shaL (RtP.innR (treeL k (L.take (RtP.half L.length))) (treeL k (L.drop (RtP.half L.length)))) := by
  unfold treeL
  rw [RtP.tree, if_neg (by simpa using h)]
  simp [List.map_take, List.map_drop]
def Fit (L : List CV) : Prop := ∀ c ∈ L, (0 ≤ c.k ∧ c.k < 9223372036854775808) ∧ c.s.size + c.l.length ≤ 140737488350000
theorem Try.sizeC (a b c : Value) : (Try.prog.info? 40).map (·.size) = some (#[a, b, c] : Array Value).size := by kernel_rfl


def CsV (B : Nat) (w : World) (v : Value) (L : List CV) : Prop :=
  (∃ a c, v = .slice a 0 c ∧ L = []) ∨ ∃ b off cap, v = .slice (some ⟨b, off, none⟩) L.length cap ∧ L.length ≤ cap ∧ CsAt B w b off L
theorem CsV.below {B : Nat} {w w' : World} {v : Value} {L : List CV} (h : CsV B w v L) (hb : Below B w w') : CsV B w' v L := by
  rcases h with h | ⟨b, off, cap, h1, h2, h3⟩
  · exact .inl h
  · exact .inr ⟨b, off, cap, h1, h2, h3.below hb⟩
def rootL (L : List CV) : List Int := RtP.rootR shaL numL le8 (L.map CV.ce)
theorem rootL_eq (L : List CV) : rootL L = RtP.topR le8 L.length (treeL L.length L) := by simp [rootL, RtP.rootR, treeL]


def okK (L : List CV) : Bool := L.all fun c => kmay c.k
def okO : List CV → Bool
  | c :: d :: r => aheI c.k c.s d.k d.s && okO (d :: r)
  | _ => true
def wrongI (L : List CV) : Int := if okK L then (if okO L then 0 else 130) else 40
theorem okK_no {L : List CV} {t : Nat} {c : CV} (h : L[t]? = some c) (hc : kmay c.k = false) : okK L = false := by
  rw [okK, List.all_eq_false]
  exact ⟨c, List.mem_of_getElem? h, by simp [hc]⟩
theorem okK_yes {L : List CV} (h : ∀ (i : Nat) (c : CV), i < L.length → L[i]? = some c → kmay c.k = true) : okK L = true := by
  rw [okK, List.all_eq_true]
  intro c hc
  obtain ⟨i, hi⟩ := List.getElem?_of_mem hc
  exact h i c (List.getElem?_eq_some_iff.1 hi).1 hi
theorem okO_no : ∀ {L : List CV} {t : Nat} {c d : CV}, L[t]? = some c → L[t + 1]? = some d → aheI c.k c.s d.k d.s = false → okO L = false
  | [], t, c, d, h, _, _ => by simp at h
  | [a], t, c, d, _, h, _ => by simp at h
  | a :: b :: r, 0, c, d, h1, h2, h => by
    simp at h1 h2
    subst h1 h2
    simp [okO, h]
  | a :: b :: r, t + 1, c, d, h1, h2, h => by
    have := okO_no (L := b :: r) (t := t) (by simpa using h1) (by simpa using h2) h
    simp [okO, this]
theorem okO_yes : ∀ {L : List CV}, (∀ (i : Nat) (c d : CV), L[i]? = some c → L[i + 1]? = some d → aheI c.k c.s d.k d.s = true) → okO L = true
  | [], _ => rfl
  | [a], _ => rfl
  | a :: b :: r, h => by
    have h0 := h 0 a b rfl rfl
    have := okO_yes (L := b :: r) fun i c d hc hd => h (i + 1) c d (by simpa using hc) (by simpa using hd)
    simp [okO, h0, this]
theorem CsAt.c {B : Nat} {w : World} {b off t : Nat} {L : List CV} {c : CV} (h : CsAt B w b off L) (hc : L[t]? = some c) : w.cell? ⟨b, off + t * 3, none⟩ = some (.int .i64 c.k) ∧ w.cell? ⟨b, off + t * 3 + 1, none⟩ = some (.string c.s) ∧ w.cell? ⟨b, off + t * 3 + 2, none⟩ = some c.v :=
  ⟨h.at_ t c hc 0 _ rfl, h.at_ t c hc 1 _ rfl, h.at_ t c hc 2 _ rfl⟩

theorem CsAt.mono {B B' : Nat} {w : World} {b off : Nat} {L : List CV} (h : CsAt B w b off L) (hB : B ≤ B') : CsAt B' w b off L :=
  ⟨Nat.lt_of_lt_of_le h.lt hB, h.at_, fun c hc => ⟨(h.row c hc).1, fun h0 k hk => Nat.lt_of_lt_of_le ((h.row c hc).2 h0 k hk) hB⟩⟩
theorem bld_hz : Try.prog.built 25 [] = some (bytesA 32 fun _ => 0) := by kernel_rfl
def Sml (L : List CV) : Prop := ∀ c ∈ L, c.s.size + c.l.length ≤ 140737488350000
theorem fit_of {L : List CV} (h : okK L = true) (hs : Sml L) : Fit L := fun c hc => by
  have := List.all_eq_true.1 h c hc
  simp [kmay] at this
  exact ⟨by omega, hs c hc⟩
theorem okK_of {L : List CV} (h : wrongI L = 0) : okK L = true := by
  unfold wrongI at h
  cases e : okK L
  · rw [e] at h; simp at h
  · rfl
def rootF (L : List CV) : Nat → Int := if wrongI L = 0 then shaP (rootL L) else fun _ => 0


theorem layUp_rng (s : Nat → Int) : ∀ t i, 0 ≤ layUp s t i ∧ layUp s t i < 256
  | 0, i => by simp [layUp]
  | t + 1, i => by
    have ih := layUp_rng s t i
    simp only [layUp, upd]
    repeat' split
    all_goals first | exact ih | omega
theorem shaP_rng (l : List Int) (i : Nat) : 0 ≤ shaP l i ∧ shaP l i < 256 := layUp_rng _ 8 i
def shaH (l : List Int) : Hs := Hs.mk' (shaP l) fun i _ => shaP_rng l i
theorem shaH_f (l : List Int) (i : Nat) (hi : i < 32) : (shaH l).f i = shaP l i := Hs.mk'_f _ _ i hi
theorem shaH_arr (l : List Int) : bytesA 32 (shaP l) = (encH (shaH l)).toArray := by
  rw [encH_arr]; exact bytesA_congr fun i hi => (shaH_f l i hi).symm

def hsL (h : Hs) : List Int := hl 32 h.f
theorem shaH_L (l : List Int) : hsL (shaH l) = shaL l := by
  simp only [hsL, shaL, hl]
  exact List.map_congr_left fun i hi => shaH_f l i (List.mem_range.1 hi)
theorem tree_hs {k : Nat} {L : List CV} (h1 : 1 ≤ L.length) (h2 : L.length ≤ k) : ∃ h : Hs, hsL h = treeL k L ∧ bytesA 32 (hof (treeL k L)) = (encH h).toArray := by
  obtain ⟨row, e⟩ : ∃ row, treeL k L = shaL row := by
    match k, h2 with
    | 0, h2 => omega
    | k + 1, _ =>
      unfold treeL RtP.tree
      split <;> exact ⟨_, rfl⟩
  refine ⟨shaH row, by rw [shaH_L, e], ?_⟩
  rw [e, shaL, hof_hl, shaH_arr]
def pathL (k : Nat) (L : List CV) (i : Nat) : List (List Int) := RtP.path shaL numL k (L.map CV.ce) i
theorem pathL_one (k : Nat) (c : CV) (i : Nat) : pathL (k + 1) [c] i = [] := by simp [pathL, RtP.path]
theorem pathL_lo {k : Nat} {L : List CV} {i : Nat} (h : ¬ L.length ≤ 1) (hi : i < RtP.half L.length) : pathL (k + 1) L i = pathL k (L.take (RtP.half L.length)) i ++ [treeL k (L.drop (RtP.half L.length))] := by
  unfold pathL treeL
  rw [RtP.path, if_neg (by simpa using h), if_pos (by simpa using hi)]
  simp [List.map_take, List.map_drop]
theorem pathL_hi {k : Nat} {L : List CV} {i : Nat} (h : ¬ L.length ≤ 1) (hi : ¬ i < RtP.half L.length) : pathL (k + 1) L i = pathL k (L.drop (RtP.half L.length)) (i - RtP.half L.length) ++ [treeL k (L.take (RtP.half L.length))] := by
  unfold pathL treeL
  rw [RtP.path, if_neg (by simpa using h), if_neg (by simpa using hi)]
  simp [List.map_take, List.map_drop]

end Go.Proofs.Ytjklmkeedhgncaa
