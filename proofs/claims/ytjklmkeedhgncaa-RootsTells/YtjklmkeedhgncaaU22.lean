import Derived.Test.YtjklmkeedhgncaaU19
import Derived.Test.YtjklmkeedhgncaaU21
import Derived.Test.YtjklmkeedhgncaaU13
import Derived.Test.YtjklmkeedhgncaaRows
import Derived.Test.YtjklmkeedhgncaaU04
import Derived.Test.YtjklmkeedhgncaaU18
import Derived.Test.YtjklmkeedhgncaaU10
import Derived.Test.YtjklmkeedhgncaaU09
import Derived.ProofKit
import Derived.OpenShut
import Derived.ShutString
import Derived.ChangeOld
import Derived.Below
import Derived.SizedLaws
import Derived.Deep.Slices
import Derived.Deep.Strs
namespace Go.Proofs.Ytjklmkeedhgncaa
open Go.RowKit
set_option linter.unusedSimpArgs false
set_option linter.unusedVariables false
theorem climb_fuel {H : List Int → List Int} : ∀ (k n i : Nat) (h : List Int) (p : List (List Int)) (r : List Int × List (List Int)), RtP.climb H k n i h p = some r → RtP.climb H (p.length + 1) n i h p = some r
  | 0, _, _, _, _, _, e => by simp [RtP.climb] at e
  | k + 1, n, i, h, p, r, e => by
    unfold RtP.climb at e ⊢
    by_cases hn : n ≤ 1
    · rw [if_pos hn] at e ⊢; exact e
    · rw [if_neg hn] at e ⊢
      cases p with
      | nil => exact e
      | cons b q =>
        simp only at e ⊢
        by_cases hi : i < RtP.half n
        · rw [if_pos hi] at e ⊢
          cases hc : RtP.climb H k (RtP.half n) i h q with
          | none => rw [hc] at e; cases e
          | some z => rw [hc] at e; rw [List.length_cons, climb_fuel k _ _ _ _ _ hc]; exact e
        · rw [if_neg hi] at e ⊢
          cases hc : RtP.climb H k (n - RtP.half n) (i - RtP.half n) h q with
          | none => rw [hc] at e; cases e
          | some z => rw [hc] at e; rw [List.length_cons, climb_fuel k _ _ _ _ _ hc]; exact e
theorem leaf_takes {L : List CV} {k : Nat} {x : LV} {c : CV} {root : Hs} (hW : wrongI L = 0) (hr : root = shaH (rootL L)) (e1 : x.num = (k : Int)) (hc : L[k]? = some c) (e2 : x.c.k = c.k) (e3 : x.c.s = c.s) (e4 : x.c.l = c.l) (e5 : x.ps.map hsL = pathL L.length L k) : okL (L.length : Int) x = true ∧ rgtB L.length x root = true := by
  have hk := (List.getElem?_eq_some_iff.mp hc).1
  refine ⟨?_, ?_⟩
  · have h := List.all_eq_true.1 (okK_of hW) c (List.mem_of_getElem? hc)
    unfold okL
    rw [e1, e2]
    simp at h ⊢
    exact ⟨hk, h⟩
  · have he : x.c.ce = c.ce := by unfold CV.ce; rw [e2, e3, e4]
    obtain ⟨rs, h⟩ := RtP.climb_path shaL numL L.length (L.map CV.ce) k c.ce (by simp) (by simp [hc])
    rw [List.length_map] at h
    have h2 := climb_fuel _ _ _ _ _ _ h
    have hp : x.ps.reverse.map hsL = (RtP.path shaL numL L.length (L.map CV.ce) k).reverse := by
      rw [List.map_reverse, e5]; rfl
    unfold rgtB climbL lfH
    rw [e1, he, hp, show x.ps.length = (RtP.path shaL numL L.length (L.map CV.ce) k).reverse.length from by rw [← hp]; simp, Int.toNat_natCast, h2]
    simp only
    rw [hr, rootL_eq, decide_eq_true_iff]
    rfl
theorem find_takes {L : List CV} {kind : Int} {key : ByteArray} {at_ : Nat} {ls : List LV} {root : Hs} (hW : wrongI L = 0) (ha : at_ ≤ L.length) (hAt : ∀ (i : Nat) (c : CV), L[i]? = some c → (stI c.k c.s kind key < 0 ↔ i < at_))
    (hl : L = [] → ls = []) (hx : L ≠ [] → ls.length = (fnd L.length at_ (fndB L at_ kind key)).length ∧ LIs L (fnd L.length at_ (fndB L at_ kind key)) ls) (hr : root = shaH (rootL L)) :
    takB root (L.length : Int) kind key ls = true ∧ tellB ls kind key = fndB L at_ kind key ∧ (fndB L at_ kind key = true → ∃ (c : CV) (x : LV), L[at_]? = some c ∧ ls = [x] ∧ x.c.k = c.k ∧ x.c.s = c.s ∧ x.c.l = c.l) := by
  by_cases h0 : L = []
  · rw [hl h0]
    subst h0
    refine ⟨?_, rfl, fun h => by simp [fndB] at h⟩
    unfold takB formB ansB rtB
    simp
    rw [hr]
    rfl
  · have hn : 0 < L.length := List.length_pos_iff.mpr h0
    obtain ⟨hlen, hi⟩ := hx h0
    have hle : ∀ x ∈ ls, okL (L.length : Int) x = true ∧ rgtB L.length x root = true := fun x hx => by
      obtain ⟨j, hj, rfl⟩ := List.getElem_of_mem hx
      have hg := List.getElem?_eq_getElem (show j < (fnd L.length at_ (fndB L at_ kind key)).length by rw [← hlen]; exact hj)
      obtain ⟨p1, ⟨c, p2, p3, p4, p5⟩, p6⟩ := hi j _ _ hg (List.getElem?_eq_getElem hj)
      exact leaf_takes hW hr p1 p2 p3 p4 p5 p6
    have hl2 := fnd_len (b := fndB L at_ kind key) hn ha
    have hT : ansB (L.length : Int) ls kind key = true → takB root (L.length : Int) kind key ls = true := fun h => by
      unfold takB formB rtB
      rw [h, if_neg (by omega), if_neg (by rw [hlen]; omega), if_neg (by omega)]
      simp only [Bool.true_and, Bool.and_eq_true, List.all_eq_true]
      refine ⟨fun x hx => (hle x hx).1, fun x hx => by rw [Int.toNat_natCast]; exact (hle x hx).2⟩
    cases his : fndB L at_ kind key
    · rw [his] at hlen hi hl2
      have hne : ∀ c, L[at_]? = some c → 0 < stI c.k c.s kind key := fun c hc => by
        have h1 := hAt at_ c hc
        rw [fndB_at hc] at his
        have h2 : ¬ stI c.k c.s kind key = 0 := by simpa using his
        have h3 : ¬ stI c.k c.s kind key < 0 := fun e => by have := h1.mp e; omega
        omega
      refine ⟨hT ?_, ?_, fun h => by cases h⟩
      all_goals
        by_cases h1 : 0 < at_
        · by_cases h2 : at_ < L.length
          · have hf : fnd L.length at_ false = [at_ - 1, at_] := by simp [fnd, h1, h2]
            rw [hf] at hlen hi
            match ls, hlen with
            | [x, y], _ =>
              obtain ⟨p1, ⟨c, p2, p3, p4, _⟩, _⟩ := hi 0 _ x rfl rfl
              obtain ⟨q1, ⟨d, q2, q3, q4, _⟩, _⟩ := hi 1 _ y rfl rfl
              have s1 := (hAt _ c p2).mpr (by omega)
              have s2 := hne d q2
              simp [ansB, tellB, sgn, p1, q1, p3, p4, q3, q4, s1, s2]
              try omega
          · have hf : fnd L.length at_ false = [at_ - 1] := by simp [fnd, h1, h2]
            rw [hf] at hlen hi
            match ls, hlen with
            | [x], _ =>
              obtain ⟨p1, ⟨c, p2, p3, p4, _⟩, _⟩ := hi 0 _ x rfl rfl
              have s1 := (hAt _ c p2).mpr (by omega)
              simp [ansB, tellB, sgn, p1, p3, p4, s1]
              try omega
        · have h2 : at_ < L.length := by omega
          have hf : fnd L.length at_ false = [at_] := by simp [fnd, h1, h2]
          rw [hf] at hlen hi
          match ls, hlen with
          | [x], _ =>
            obtain ⟨p1, ⟨c, p2, p3, p4, _⟩, _⟩ := hi 0 _ x rfl rfl
            have s1 := hne c p2
            simp [ansB, tellB, sgn, p1, p3, p4, s1]
            try omega
    · rw [his] at hlen hi
      have hf : fnd L.length at_ true = [at_] := by simp [fnd]
      rw [hf] at hlen hi
      match ls, hlen with
      | [x], _ =>
        obtain ⟨p1, ⟨c, p2, p3, p4, p5⟩, _⟩ := hi 0 _ x rfl rfl
        rw [fndB_at p2] at his
        have s0 : stI c.k c.s kind key = 0 := by simpa using his
        refine ⟨hT ?_, ?_, fun _ => ⟨c, x, p2, rfl, p3, p4, p5⟩⟩
        · simp [ansB, sgn, p3, p4, s0]
        · simp [tellB, p3, p4, s0]
theorem fd_sml {L : List CV} {kind : Int} {at_ : Nat} {key : ByteArray} {ls : List LV} (hS : Sml L) (hN : L.length ≤ 3600000000000)
    (hl : L = [] → ls = []) (hx : L ≠ [] → ls.length = (fnd L.length at_ (fndB L at_ kind key)).length ∧ LIs L (fnd L.length at_ (fndB L at_ kind key)) ls) : SmL ls := fun x hx' => by
  by_cases h0 : L = []
  · rw [hl h0] at hx'; simp at hx'
  · obtain ⟨hlen, hi⟩ := hx h0
    obtain ⟨j, hj, rfl⟩ := List.getElem_of_mem hx'
    have hg := List.getElem?_eq_getElem (show j < (fnd L.length at_ (fndB L at_ kind key)).length by rw [← hlen]; exact hj)
    obtain ⟨p1, ⟨c, p2, p3, p4, p5⟩, p6⟩ := hi j _ _ hg (List.getElem?_eq_getElem hj)
    have h := congrArg List.length p6
    rw [List.length_map] at h
    have h2 := pathL_len L.length L ((fnd L.length at_ (fndB L at_ kind key))[j]'(by rw [← hlen]; exact hj))
    have h3 := hS c (List.mem_of_getElem? p2)
    refine ⟨by rw [p4, p5]; exact h3, by omega⟩
theorem tells_eq {L : List CV} {kind : Int} {key : ByteArray} {at_ : Nat} {ls : List LV} {root : Hs} {c d : CV} {b : Bool} (hW : wrongI L = 0) (hk : kmay kind = true) (ha : at_ ≤ L.length) (hAt : ∀ (i : Nat) (c : CV), L[i]? = some c → (stI c.k c.s kind key < 0 ↔ i < at_))
    (hl : L = [] → ls = []) (hx : L ≠ [] → ls.length = (fnd L.length at_ (fndB L at_ kind key)).length ∧ LIs L (fnd L.length at_ (fndB L at_ kind key)) ls) (hr : root = shaH (rootL L))
    (c1 : chkI root (L.length : Int) kind key ls = false → c = ⟨0, ByteArray.empty, .slice none 0 0, []⟩) (c2 : ∀ x, chkI root (L.length : Int) kind key ls = true → ls = [x] → c.k = x.c.k ∧ c.s = x.c.s ∧ c.l = x.c.l)
    (d1 : b = true → ∃ i : Nat, L[i]? = some d ∧ d.k = kind ∧ d.s = key) (d2 : b = false → d = ⟨0, ByteArray.empty, .slice none 0 0, []⟩ ∧ ∀ (i : Nat) (d : CV), L[i]? = some d → ¬ (d.k = kind ∧ d.s = key)) :
    chkE root (L.length : Int) kind key ls = 0 ∧ chkI root (L.length : Int) kind key ls = b ∧ sameC c d = true := by
  obtain ⟨t1, t2, t3⟩ := find_takes (root := root) hW ha hAt hl hx hr
  have hE : chkE root (L.length : Int) kind key ls = 0 := by unfold chkE; rw [hk, t1]; rfl
  have hI : chkI root (L.length : Int) kind key ls = fndB L at_ kind key := by unfold chkI; rw [hE, t2]; simp
  cases b
  · obtain ⟨rfl, h2⟩ := d2 rfl
    have hf : fndB L at_ kind key = false := by
      cases e : fndB L at_ kind key
      · rfl
      · obtain ⟨c', x, p, _⟩ := t3 e
        rw [fndB_at p] at e
        exact absurd ((stI_eq _ _ _ _).mp (by simpa using e)) (h2 _ _ p)
    rw [hf] at hI
    rw [c1 hI]
    exact ⟨hE, hI, rfl⟩
  · obtain ⟨i, h1, h2, h3⟩ := d1 rfl
    have h0 : stI d.k d.s kind key = 0 := (stI_eq _ _ _ _).mpr ⟨h2, h3⟩
    have hi : at_ = i := by
      have h4 : ¬ i < at_ := fun e => by have := (hAt i d h1).mpr e; omega
      have hil := (List.getElem?_eq_some_iff.mp h1).1
      by_cases e : at_ = i
      · exact e
      · have hg := List.getElem?_eq_getElem (show at_ < L.length by omega)
        have h5 := ord_of hW (i - at_ - 1) at_ _ d hg (by rw [show at_ + (i - at_ - 1) + 1 = i by omega]; exact h1)
        rw [h2, h3] at h5
        have h6 := (hAt _ _ hg).mp ((stI_lt _ _ _ _).mpr h5)
        omega
    subst hi
    have hf : fndB L at_ kind key = true := by rw [fndB_at h1]; simpa using h0
    obtain ⟨c', x, p, e, p3, p4, p5⟩ := t3 hf
    obtain rfl : d = c' := Option.some.inj (h1.symm.trans p)
    rw [hf] at hI
    obtain ⟨q1, q2, q3⟩ := c2 x hI e
    refine ⟨hE, hI, ?_⟩
    simp [sameC, q1, q2, q3, p3, p4, p5]

set_option maxRecDepth 8000 in
set_option maxHeartbeats 1000000 in
theorem tells_bad (la : Option Addr) (m cap : Nat) (ua : Option Addr) (ul uc : Nat) (L : List CV) (kind un : Int) (key : ByteArray) (at_ : Nat) (hh : Array Value) (w : World) (HC : Keep (CsV w.heap.size w (.slice la m cap) L)) (HS : Keep (Sml L)) (HN : Keep (L.length ≤ 3600000000000)) (HA : Keep (at_ ≤ L.length)) (HAt : Keep (wrongI L = 0 → ∀ (i : Nat) (c : CV), L[i]? = some c → (stI c.k c.s kind key < 0 ↔ i < at_))) (er : Int) (hwi : Keep (wrongI L = er)) (hhe : Keep (hh = bytesA 32 (rootF L))) (hbad : Keep (wrongI L ≠ 0 ∨ kmay kind = false)) :
    Calls Try.prog 6 #[.agg #[.slice la m cap, .int .i64 kind, .string key, .int .i64 un, .slice ua ul uc]] w fun e w' => e = .returned (.bool true) ∧ Below w.heap.size w w' := by
  go_enter Try.func6, Try.ntmps6
  refine wp_seq_k fun K1 hK1 => ?_
  refine wp_region_list (WL.out ?_)
  refine WL.box (by kernel_rfl) 46 (.tmp 0) rfl #[.slice la m cap, .int .i64 kind, .string key, .int .i64 un, .slice ua ul uc] rfl ?_
  have X1 := Keep.mk (Blk.new w 46 #[.slice la m cap, .int .i64 kind, .string key, .int .i64 un, .slice ua ul uc])
  have b_ := below_new w (.cells #[.slice la m cap, .int .i64 kind, .string key, .int .i64 un, .slice ua ul uc] 46)
  change WL _ _ _ _ _ (w.alloc (.cells #[.slice la m cap, .int .i64 kind, .string key, .int .i64 un, .slice ua ul uc] 46))
  generalize w.alloc (.cells #[.slice la m cap, .int .i64 kind, .string key, .int .i64 un, .slice ua ul uc] 46) = w1 at *
  obtain ⟨x, hx0⟩ : ∃ z, Keep (z = w.heap.size) := ⟨_, ⟨rfl⟩⟩
  rw [← hx0.out] at X1 ⊢
  have B1 : Keep (Below w.heap.size w w1) := ⟨b_⟩
  have gx : Keep (w.heap.size ≤ x) := ⟨by rw [hx0.out]; exact Nat.le_refl _⟩
  clear b_
  simp only [Act.put, List.setIfInBounds_toArray, List.set_cons_zero, List.set_cons_succ]
  refine WL.val (by kernel_rfl) (.bool false) (by go_simp) ?_
  simp only [Act.put, List.setIfInBounds_toArray, List.set_cons_zero, List.set_cons_succ]
  refine WL.nil ?_
  refine hK1 _ _ ?_
  refine wp_seq_k fun K2 hK2 => ?_
  refine wp_region_list (WL.out ?_)
  refine WL.val (by kernel_rfl) (.pointer (some ⟨x, 0, none⟩)) (by go_simp) ?_
  simp only [Act.put, List.setIfInBounds_toArray, List.set_cons_zero, List.set_cons_succ]
  have m_ : w1.cell? ⟨x, 0, none⟩ = some (.slice la m cap) := X1.out.c 0 rfl
  refine WL.val (by kernel_rfl) (.slice la m cap) (by go_simp) ?_
  clear m_
  simp only [Act.put, List.setIfInBounds_toArray, List.set_cons_zero, List.set_cons_succ]
  refine WL.callF (by kernel_rfl) 10 _ _ rfl Try.in10 #[.slice la m cap] (by simp [Act.eval]) ?_
  refine (pRoot_any _ L w1 ((HC.out.below B1.out).mono B1.out.size) HS.out HN.out).mono ?_
  rintro e w2 ⟨rfl, k1⟩
  refine ⟨_, rfl, ?_⟩
  rw [← hhe.out, hwi.out]
  have X2 := Keep.mk (X1.out.below k1 X1.out.lt)
  have B2 : Keep (Below w.heap.size w w2) := ⟨B1.out.trans (k1.mono B1.out.size)⟩
  clear k1
  simp only [Act.put, List.setIfInBounds_toArray, List.set_cons_zero, List.set_cons_succ]
  refine WL.val (by kernel_rfl) (.tuple #[.agg hh, .int .i64 er]) (by go_simp) ?_
  simp only [Act.put, List.setIfInBounds_toArray, List.set_cons_zero, List.set_cons_succ]
  refine WL.val (by kernel_rfl) (.agg hh) (by go_simp) ?_
  simp only [Act.put, List.setIfInBounds_toArray, List.set_cons_zero, List.set_cons_succ]
  refine WL.val (by kernel_rfl) (.int .i64 er) (by go_simp) ?_
  simp only [Act.put, List.setIfInBounds_toArray, List.set_cons_zero, List.set_cons_succ]
  refine WL.new (by kernel_rfl) 25 rfl _ Try.new25 ?_
  have A3 := Keep.mk (Blk.new w2 25 (bytesA 32 fun _ => 0))
  have b_ := below_new w2 (.cells (bytesA 32 fun _ => 0) 25)
  change WL _ _ _ _ _ (w2.alloc (.cells (bytesA 32 fun _ => 0) 25))
  generalize w2.alloc (.cells (bytesA 32 fun _ => 0) 25) = w3 at *
  obtain ⟨a, ha0⟩ : ∃ z, Keep (z = w2.heap.size) := ⟨_, ⟨rfl⟩⟩
  rw [← ha0.out] at A3 ⊢
  have X3 := Keep.mk (X2.out.below b_ X2.out.lt)
  have B3 : Keep (Below w.heap.size w w3) := ⟨B2.out.trans (b_.mono B2.out.size)⟩
  have ga : Keep (w.heap.size ≤ a) := ⟨by rw [ha0.out]; exact B2.out.size⟩
  clear b_
  have nxa : Keep (x ≠ a) := ⟨by have := X2.out.lt; have := ha0.out; omega⟩
  simp only [Act.put, List.setIfInBounds_toArray, List.set_cons_zero, List.set_cons_succ]
  refine WL.storeR (by kernel_rfl) 25 (.tmp 3) (.tmp 17) rfl a hh rfl rfl 25 (bytesA 32 fun _ => 0) A3.out (by rw [hhe.out]; exact Try.size25B _) (by rw [hhe.out]; exact bytesA_sizes _ _ _) (by rw [hhe.out]; exact bytesA_one _ _) ?_
  have A4 := Keep.mk (A3.out.setRow hh)
  have B4 : Keep (Below w.heap.size w (w3.setRow a hh)) := ⟨below_setRow B3.out ga.out _⟩
  have X4 := Keep.mk (X3.out.setRow_ne nxa.out hh)
  generalize w3.setRow a hh = w4 at *
  simp only [Act.put]
  refine WL.val (by kernel_rfl) (.int .i64 er) (by go_simp) ?_
  simp only [Act.put, List.setIfInBounds_toArray, List.set_cons_zero, List.set_cons_succ]
  refine WL.nil ?_
  refine hK2 _ _ ?_
  refine wp_seq_k fun K3 hK3 => ?_
  refine wp_region_list (WL.out ?_)
  refine WL.val (by kernel_rfl) (.pointer (some ⟨x, 0, none⟩)) (by go_simp) ?_
  simp only [Act.put, List.setIfInBounds_toArray, List.set_cons_zero, List.set_cons_succ]
  have m_ : w4.cell? ⟨x, 0, none⟩ = some (.slice la m cap) := X4.out.c 0 rfl
  refine WL.val (by kernel_rfl) (.slice la m cap) (by go_simp) ?_
  clear m_
  simp only [Act.put, List.setIfInBounds_toArray, List.set_cons_zero, List.set_cons_succ]
  refine WL.val (by kernel_rfl) (.pointer (some ⟨x, 1, none⟩)) (by go_simp) ?_
  simp only [Act.put, List.setIfInBounds_toArray, List.set_cons_zero, List.set_cons_succ]
  have m_ : w4.cell? ⟨x, 1, none⟩ = some (.int .i64 kind) := X4.out.c 1 rfl
  refine WL.val (by kernel_rfl) (.int .i64 kind) (by go_simp) ?_
  clear m_
  simp only [Act.put, List.setIfInBounds_toArray, List.set_cons_zero, List.set_cons_succ]
  refine WL.val (by kernel_rfl) (.pointer (some ⟨x, 2, none⟩)) (by go_simp) ?_
  simp only [Act.put, List.setIfInBounds_toArray, List.set_cons_zero, List.set_cons_succ]
  have m_ : w4.cell? ⟨x, 2, none⟩ = some (.string key) := X4.out.c 2 rfl
  refine WL.val (by kernel_rfl) (.string key) (by go_simp) ?_
  clear m_
  simp only [Act.put, List.setIfInBounds_toArray, List.set_cons_zero, List.set_cons_succ]
  refine WL.callF (by kernel_rfl) 12 _ _ rfl Try.in12 #[.slice la m cap, .int .i64 kind, .string key] (by simp [Act.eval]) ?_
  refine (fd_any _ L kind key at_ w4 ((HC.out.below B4.out).mono B4.out.size) HS.out HN.out HA.out HAt.out).mono ?_
  rintro e w5 ⟨n1, v1, ls1, e1, rfl, k0, k1, k2, k3, k4⟩
  refine ⟨_, rfl, ?_⟩
  have S1 := Keep.mk k0
  have F1 := Keep.mk (And.intro k2 (And.intro k3 k4))
  obtain ⟨va1, vl1, vc1, hv1⟩ : ∃ a n c, v1 = .slice a n c := by
    rcases k0 with ⟨a, c, h, _⟩ | ⟨g, o, c, h, _⟩
    · exact ⟨_, _, _, h⟩
    · exact ⟨_, _, _, h⟩
  subst hv1
  have b1 := Keep.mk k1
  have X5 := Keep.mk (X4.out.below k1 X4.out.lt)
  have A5 := Keep.mk (A4.out.below k1 A4.out.lt)
  have B5 : Keep (Below w.heap.size w w5) := ⟨B4.out.trans (k1.mono B4.out.size)⟩
  clear k0 k1 k2 k3 k4
  simp only [Act.put, List.setIfInBounds_toArray, List.set_cons_zero, List.set_cons_succ]
  refine WL.val (by kernel_rfl) (.tuple #[.agg (wtA n1 (.slice va1 vl1 vc1)), .int .i64 e1]) (by go_simp) ?_
  simp only [Act.put, List.setIfInBounds_toArray, List.set_cons_zero, List.set_cons_succ]
  refine WL.val (by kernel_rfl) (.agg (wtA n1 (.slice va1 vl1 vc1))) (by go_simp) ?_
  simp only [Act.put, List.setIfInBounds_toArray, List.set_cons_zero, List.set_cons_succ]
  refine WL.val (by kernel_rfl) (.int .i64 e1) (by go_simp) ?_
  simp only [Act.put, List.setIfInBounds_toArray, List.set_cons_zero, List.set_cons_succ]
  refine WL.new (by kernel_rfl) 31 rfl _ Try.newW ?_
  have P6 := Keep.mk (Blk.new w5 31 #[.int .i64 0, .slice none 0 0])
  have b_ := below_new w5 (.cells #[.int .i64 0, .slice none 0 0] 31)
  change WL _ _ _ _ _ (w5.alloc (.cells #[.int .i64 0, .slice none 0 0] 31))
  generalize w5.alloc (.cells #[.int .i64 0, .slice none 0 0] 31) = w6 at *
  obtain ⟨p, hp0⟩ : ∃ z, Keep (z = w5.heap.size) := ⟨_, ⟨rfl⟩⟩
  rw [← hp0.out] at P6 ⊢
  have X6 := Keep.mk (X5.out.below b_ X5.out.lt)
  have A6 := Keep.mk (A5.out.below b_ A5.out.lt)
  have B6 : Keep (Below w.heap.size w w6) := ⟨B5.out.trans (b_.mono B5.out.size)⟩
  have gp : Keep (w.heap.size ≤ p) := ⟨by rw [hp0.out]; exact B5.out.size⟩
  have n6 := Keep.mk b_
  clear b_
  have nxp : Keep (x ≠ p) := ⟨by have := X5.out.lt; have := hp0.out; omega⟩
  have nap : Keep (a ≠ p) := ⟨by have := A5.out.lt; have := hp0.out; omega⟩
  simp only [Act.put, List.setIfInBounds_toArray, List.set_cons_zero, List.set_cons_succ]
  refine WL.storeR (by kernel_rfl) 31 (.tmp 5) (.tmp 27) rfl p (wtA n1 (.slice va1 vl1 vc1)) rfl rfl 31 #[.int .i64 0, .slice none 0 0] P6.out (by rfl) rfl (by simp [wtA, Value.oneCell']) ?_
  have P7 := Keep.mk (P6.out.setRow (wtA n1 (.slice va1 vl1 vc1)))
  have B7 : Keep (Below w.heap.size w (w6.setRow p (wtA n1 (.slice va1 vl1 vc1)))) := ⟨below_setRow B6.out gp.out _⟩
  have X7 := Keep.mk (X6.out.setRow_ne nxp.out (wtA n1 (.slice va1 vl1 vc1)))
  have A7 := Keep.mk (A6.out.setRow_ne nap.out (wtA n1 (.slice va1 vl1 vc1)))
  have b7 := below_setRow n6.out (by rw [hp0.out]; exact Nat.le_refl _ : w5.heap.size ≤ p) (wtA n1 (.slice va1 vl1 vc1))
  have T7 : Keep (LsV (w6.setRow p (wtA n1 (.slice va1 vl1 vc1))).heap.size (w6.setRow p (wtA n1 (.slice va1 vl1 vc1))) (.slice va1 vl1 vc1) ls1) := ⟨(S1.out.below b7).mono b7.size⟩
  clear b7
  generalize w6.setRow p (wtA n1 (.slice va1 vl1 vc1)) = w7 at *
  simp only [Act.put]
  refine WL.val (by kernel_rfl) (.int .i64 e1) (by go_simp) ?_
  simp only [Act.put, List.setIfInBounds_toArray, List.set_cons_zero, List.set_cons_succ]
  refine WL.nil ?_
  refine hK3 _ _ ?_
  refine wp_seq_k fun K4 hK4 => ?_
  refine wp_region_list (WL.out ?_)
  refine WL.val (by kernel_rfl) (.pointer (some ⟨x, 0, none⟩)) (by go_simp) ?_
  simp only [Act.put, List.setIfInBounds_toArray, List.set_cons_zero, List.set_cons_succ]
  have m_ : w7.cell? ⟨x, 0, none⟩ = some (.slice la m cap) := X7.out.c 0 rfl
  refine WL.val (by kernel_rfl) (.slice la m cap) (by go_simp) ?_
  clear m_
  simp only [Act.put, List.setIfInBounds_toArray, List.set_cons_zero, List.set_cons_succ]
  refine WL.callF (by kernel_rfl) 18 _ _ rfl Try.in18 #[.slice la m cap] (by simp [Act.eval]) ?_
  refine (wrong_any w.heap.size _ L w7 (HC.out.below B7.out) B7.out.size (by have := HN.out; omega)).mono ?_
  rintro e w8 ⟨rfl, k1⟩
  refine ⟨_, rfl, ?_⟩
  rw [hwi.out]
  have X8 := Keep.mk (X7.out.below k1 X7.out.lt)
  have A8 := Keep.mk (A7.out.below k1 A7.out.lt)
  have P8 := Keep.mk (P7.out.below k1 P7.out.lt)
  have T8 := Keep.mk ((T7.out.below k1).mono k1.size)
  have B8 : Keep (Below w.heap.size w w8) := ⟨B7.out.trans (k1.mono B7.out.size)⟩
  clear k1
  simp only [Act.put, List.setIfInBounds_toArray, List.set_cons_zero, List.set_cons_succ]
  refine WL.val (by kernel_rfl) (.int .i64 er) (by go_simp) ?_
  simp only [Act.put, List.setIfInBounds_toArray, List.set_cons_zero, List.set_cons_succ]
  refine WL.nil ?_
  refine hK4 _ _ ?_
  refine wp_seq_k fun K5 hK5 => ?_
  refine wp_seq_k fun K6 hK6 => ?_
  have rest4 : ∀ (y32 y33 y34 y35 y36 y37 y38 y39 y40 y41 y42 : Value), K6 { tmps := #[.agg #[.slice la m cap, .int .i64 kind, .string key, .int .i64 un, .slice ua ul uc], .pointer (some ⟨x, 0, none⟩), .bool false, .pointer (some ⟨a, 0, none⟩), .int .i64 er, .pointer (some ⟨p, 0, none⟩), .int .i64 e1, .int .i64 er, undef, undef, undef, undef, undef, .tuple #[.agg hh, .int .i64 er], .pointer (some ⟨x, 0, none⟩), .slice la m cap, .tuple #[.agg hh, .int .i64 er], .agg hh, .int .i64 er, .tuple #[.agg (wtA n1 (.slice va1 vl1 vc1)), .int .i64 e1], .pointer (some ⟨x, 0, none⟩), .slice la m cap, .pointer (some ⟨x, 1, none⟩), .int .i64 kind, .pointer (some ⟨x, 2, none⟩), .string key, .tuple #[.agg (wtA n1 (.slice va1 vl1 vc1)), .int .i64 e1], .agg (wtA n1 (.slice va1 vl1 vc1)), .int .i64 e1, .pointer (some ⟨x, 0, none⟩), .slice la m cap, .int .i64 er, y32, y33, y34, y35, y36, y37, y38, y39, y40, y41, y42, .bool true, undef, undef, undef, undef, undef, undef, undef, undef, undef, undef, undef, undef, undef, undef, undef, undef, undef, undef, undef, undef, undef, undef, undef, undef, undef, undef, undef, undef, undef, undef, undef, undef, undef, undef, undef, undef, undef, undef, undef, undef, undef, undef, undef, undef, undef, undef, undef, undef, undef, undef, undef, undef, undef, undef, undef, undef, undef, undef, undef], defers := [] } w8 := by
    intro y32 y33 y34 y35 y36 y37 y38 y39 y40 y41 y42
    obtain ⟨bz, hbz⟩ : ∃ z, (er != 0) = z := ⟨_, rfl⟩
    have hbb : (bz == bz) = true := by cases bz <;> rfl
    have HZ : Keep (n1 = 0 ∧ ls1 = [] ∧ ¬ e1 = 0) := ⟨by
      cases hk : kmay kind
      · obtain ⟨h1, h2, h3⟩ := F1.out.1 hk; exact ⟨h1, h2, by omega⟩
      · have hw : wrongI L ≠ 0 := fun h => by rcases hbad.out with h5 | h5
                                              · exact h5 h
                                              · rw [hk] at h5; cases h5
        obtain ⟨h1, h2, h3⟩ := F1.out.2.1 hk hw; exact ⟨h1, h2, by rw [h3]; exact hw⟩⟩
    have he1 : (e1 != 0) = true := by simpa using HZ.out.2.2
    refine hK6 _ _ ?_
    refine wp_cond_true rfl ?_
    refine wp_seq_k fun K7 hK7 => ?_
    refine wp_region_list (WL.out ?_)
    refine WL.val (by kernel_rfl) (.int .i64 er) (by go_simp) ?_
    simp only [Act.put, List.setIfInBounds_toArray, List.set_cons_zero, List.set_cons_succ]
    refine WL.val (by kernel_rfl) (.bool bz) (by go_simp) ?_
    simp only [Act.put, List.setIfInBounds_toArray, List.set_cons_zero, List.set_cons_succ]
    refine WL.val (by kernel_rfl) (.int .i64 er) (by go_simp) ?_
    simp only [Act.put, List.setIfInBounds_toArray, List.set_cons_zero, List.set_cons_succ]
    refine WL.val (by kernel_rfl) (.bool bz) (by go_simp) ?_
    simp only [Act.put, List.setIfInBounds_toArray, List.set_cons_zero, List.set_cons_succ]
    refine WL.val (by kernel_rfl) (.bool true) (by go_simp) ?_
    simp only [Act.put, List.setIfInBounds_toArray, List.set_cons_zero, List.set_cons_succ]
    refine WL.val (by kernel_rfl) (.bool true) (by go_simp) ?_
    simp only [Act.put, List.setIfInBounds_toArray, List.set_cons_zero, List.set_cons_succ]
    refine WL.val (by kernel_rfl) (.int .i64 e1) (by go_simp) ?_
    simp only [Act.put, List.setIfInBounds_toArray, List.set_cons_zero, List.set_cons_succ]
    refine WL.val (by kernel_rfl) (.bool true) (by go_simp) ?_
    simp only [Act.put, List.setIfInBounds_toArray, List.set_cons_zero, List.set_cons_succ]
    refine WL.val (by kernel_rfl) (.bool true) (by go_simp) ?_
    simp only [Act.put, List.setIfInBounds_toArray, List.set_cons_zero, List.set_cons_succ]
    refine WL.val (by kernel_rfl) (.bool true) (by go_simp) ?_
    simp only [Act.put, List.setIfInBounds_toArray, List.set_cons_zero, List.set_cons_succ]
    refine WL.row (by kernel_rfl) 31 (.tmp 5) rfl p rfl 31 (wtA n1 (.slice va1 vl1 vc1)) _ P8.out Try.underlying31 rfl (by rfl) ?_
    simp only [Act.put, List.setIfInBounds_toArray, List.set_cons_zero, List.set_cons_succ]
    refine WL.bld (by kernel_rfl) 31 #[] rfl [] (by simp) #[.int .i64 0, .slice none 0 0] bldW ?_
    simp only [Act.put, List.setIfInBounds_toArray, List.set_cons_zero, List.set_cons_succ]
    refine WL.callF (by kernel_rfl) 14 _ _ rfl Try.in14 #[.agg (wtA n1 (.slice va1 vl1 vc1)), .agg #[.int .i64 0, .slice none 0 0]] (by simp [Act.eval]) ?_
    refine (sw_any _ (.slice none 0 0) n1 0 ls1 [] w8 T8.out (.inl ⟨none, 0, rfl, rfl⟩) (by rw [HZ.out.2.1]; simp) (fun x hx => by rw [HZ.out.2.1] at hx; simp at hx)).mono ?_
    rintro e w9 ⟨sb, rfl, k0, k1⟩
    refine ⟨_, rfl, ?_⟩
    obtain rfl : sb = true := k0.mpr (by rw [HZ.out.1, HZ.out.2.1]; exact ⟨rfl, rfl, fun i x y h => by simp at h⟩)
    have B9 : Keep (Below w.heap.size w w9) := ⟨B8.out.trans (k1.mono B8.out.size)⟩
    clear k0 k1
    simp only [Act.put, List.setIfInBounds_toArray, List.set_cons_zero, List.set_cons_succ]
    refine WL.val (by kernel_rfl) (.bool true) (by go_simp) ?_
    simp only [Act.put, List.setIfInBounds_toArray, List.set_cons_zero, List.set_cons_succ]
    refine WL.val (by kernel_rfl) (.bool true) (by go_simp) ?_
    simp only [Act.put, List.setIfInBounds_toArray, List.set_cons_zero, List.set_cons_succ]
    refine WL.callF (by kernel_rfl) 9 _ _ rfl Try.in9 #[] (by simp) ?_
    refine (fixed_any w9).mono ?_
    rintro e w10 ⟨rfl, k1⟩
    refine ⟨_, rfl, ?_⟩
    have B10 : Keep (Below w.heap.size w w10) := ⟨B9.out.trans (k1.mono B9.out.size)⟩
    clear k1
    simp only [Act.put, List.setIfInBounds_toArray, List.set_cons_zero, List.set_cons_succ]
    refine WL.val (by kernel_rfl) (.bool true) (by go_simp) ?_
    simp only [Act.put, List.setIfInBounds_toArray, List.set_cons_zero, List.set_cons_succ]
    refine WL.val (by kernel_rfl) (.bool true) (by go_simp) ?_
    simp only [Act.put, List.setIfInBounds_toArray, List.set_cons_zero, List.set_cons_succ]
    refine WL.nil ?_
    refine hK7 _ _ ?_
    refine wp_ret ?_
    go_ret
    exact ⟨rfl, B10.out⟩
  by_cases her : er = 0
  · have her' : (er != 0) = false := by simp [her]
    have m_ : w8.cell? ⟨x, 1, none⟩ = some (.int .i64 kind) := X8.out.c 1 rfl
    by_cases hk1 : kind < 1
    · skip
      refine wp_region_list (WL.out ?_)
      refine WL.val (by kernel_rfl) (.int .i64 er) (by go_simp) ?_
      simp only [Act.put, List.setIfInBounds_toArray, List.set_cons_zero, List.set_cons_succ]
      refine WL.val (by kernel_rfl) (.bool false) (by go_simp) ?_
      simp only [Act.put, List.setIfInBounds_toArray, List.set_cons_zero, List.set_cons_succ]
      refine WL.val (by kernel_rfl) (.bool false) (by go_simp) ?_
      simp only [Act.put, List.setIfInBounds_toArray, List.set_cons_zero, List.set_cons_succ]
      refine WL.val (by kernel_rfl) (.pointer (some ⟨x, 1, none⟩)) (by go_simp) ?_
      simp only [Act.put, List.setIfInBounds_toArray, List.set_cons_zero, List.set_cons_succ]
      refine WL.val (by kernel_rfl) (.int .i64 kind) (by go_simp) ?_
      simp only [Act.put, List.setIfInBounds_toArray, List.set_cons_zero, List.set_cons_succ]
      refine WL.val (by kernel_rfl) (.bool true) (by go_simp) ?_
      simp only [Act.put, List.setIfInBounds_toArray, List.set_cons_zero, List.set_cons_succ]
      refine WL.val (by kernel_rfl) (.bool true) (by go_simp) ?_
      simp only [Act.put, List.setIfInBounds_toArray, List.set_cons_zero, List.set_cons_succ]
      refine WL.val (by kernel_rfl) (.bool true) (by go_simp) ?_
      simp only [Act.put, List.setIfInBounds_toArray, List.set_cons_zero, List.set_cons_succ]
      refine WL.skip (by kernel_rfl) ?_
      simp only [Act.put, List.setIfInBounds_toArray, List.set_cons_zero, List.set_cons_succ]
      refine WL.skip (by kernel_rfl) ?_
      simp only [Act.put, List.setIfInBounds_toArray, List.set_cons_zero, List.set_cons_succ]
      refine WL.skip (by kernel_rfl) ?_
      simp only [Act.put, List.setIfInBounds_toArray, List.set_cons_zero, List.set_cons_succ]
      refine WL.val (by kernel_rfl) (.bool true) (by go_simp) ?_
      simp only [Act.put, List.setIfInBounds_toArray, List.set_cons_zero, List.set_cons_succ]
      refine WL.nil ?_
      exact rest4 _ _ _ _ _ _ _ _ _ _ _
    · have hk4 : 4 < kind := by
        rcases hbad.out with h5 | h5
        · exact absurd (hwi.out.trans her) h5
        · simp [kmay] at h5; omega
      refine wp_region_list (WL.out ?_)
      refine WL.val (by kernel_rfl) (.int .i64 er) (by go_simp) ?_
      simp only [Act.put, List.setIfInBounds_toArray, List.set_cons_zero, List.set_cons_succ]
      refine WL.val (by kernel_rfl) (.bool false) (by go_simp) ?_
      simp only [Act.put, List.setIfInBounds_toArray, List.set_cons_zero, List.set_cons_succ]
      refine WL.val (by kernel_rfl) (.bool false) (by go_simp) ?_
      simp only [Act.put, List.setIfInBounds_toArray, List.set_cons_zero, List.set_cons_succ]
      refine WL.val (by kernel_rfl) (.pointer (some ⟨x, 1, none⟩)) (by go_simp) ?_
      simp only [Act.put, List.setIfInBounds_toArray, List.set_cons_zero, List.set_cons_succ]
      refine WL.val (by kernel_rfl) (.int .i64 kind) (by go_simp) ?_
      simp only [Act.put, List.setIfInBounds_toArray, List.set_cons_zero, List.set_cons_succ]
      refine WL.val (by kernel_rfl) (.bool false) (by go_simp) ?_
      simp only [Act.put, List.setIfInBounds_toArray, List.set_cons_zero, List.set_cons_succ]
      refine WL.val (by kernel_rfl) (.bool false) (by go_simp) ?_
      simp only [Act.put, List.setIfInBounds_toArray, List.set_cons_zero, List.set_cons_succ]
      refine WL.val (by kernel_rfl) (.bool false) (by go_simp) ?_
      simp only [Act.put, List.setIfInBounds_toArray, List.set_cons_zero, List.set_cons_succ]
      refine WL.val (by kernel_rfl) (.pointer (some ⟨x, 1, none⟩)) (by go_simp) ?_
      simp only [Act.put, List.setIfInBounds_toArray, List.set_cons_zero, List.set_cons_succ]
      refine WL.val (by kernel_rfl) (.int .i64 kind) (by go_simp) ?_
      simp only [Act.put, List.setIfInBounds_toArray, List.set_cons_zero, List.set_cons_succ]
      refine WL.val (by kernel_rfl) (.bool true) (by go_simp) ?_
      simp only [Act.put, List.setIfInBounds_toArray, List.set_cons_zero, List.set_cons_succ]
      refine WL.val (by kernel_rfl) (.bool true) (by go_simp) ?_
      simp only [Act.put, List.setIfInBounds_toArray, List.set_cons_zero, List.set_cons_succ]
      refine WL.nil ?_
      exact rest4 _ _ _ _ _ _ _ _ _ _ _
  · have her' : (er != 0) = true := by simp [her]
    refine wp_region_list (WL.out ?_)
    refine WL.val (by kernel_rfl) (.int .i64 er) (by go_simp) ?_
    simp only [Act.put, List.setIfInBounds_toArray, List.set_cons_zero, List.set_cons_succ]
    refine WL.val (by kernel_rfl) (.bool true) (by go_simp) ?_
    simp only [Act.put, List.setIfInBounds_toArray, List.set_cons_zero, List.set_cons_succ]
    refine WL.val (by kernel_rfl) (.bool true) (by go_simp) ?_
    simp only [Act.put, List.setIfInBounds_toArray, List.set_cons_zero, List.set_cons_succ]
    refine WL.skip (by kernel_rfl) ?_
    simp only [Act.put, List.setIfInBounds_toArray, List.set_cons_zero, List.set_cons_succ]
    refine WL.skip (by kernel_rfl) ?_
    simp only [Act.put, List.setIfInBounds_toArray, List.set_cons_zero, List.set_cons_succ]
    refine WL.skip (by kernel_rfl) ?_
    simp only [Act.put, List.setIfInBounds_toArray, List.set_cons_zero, List.set_cons_succ]
    refine WL.val (by kernel_rfl) (.bool true) (by go_simp) ?_
    simp only [Act.put, List.setIfInBounds_toArray, List.set_cons_zero, List.set_cons_succ]
    refine WL.val (by kernel_rfl) (.bool true) (by go_simp) ?_
    simp only [Act.put, List.setIfInBounds_toArray, List.set_cons_zero, List.set_cons_succ]
    refine WL.skip (by kernel_rfl) ?_
    simp only [Act.put, List.setIfInBounds_toArray, List.set_cons_zero, List.set_cons_succ]
    refine WL.skip (by kernel_rfl) ?_
    simp only [Act.put, List.setIfInBounds_toArray, List.set_cons_zero, List.set_cons_succ]
    refine WL.skip (by kernel_rfl) ?_
    simp only [Act.put, List.setIfInBounds_toArray, List.set_cons_zero, List.set_cons_succ]
    refine WL.val (by kernel_rfl) (.bool true) (by go_simp) ?_
    simp only [Act.put, List.setIfInBounds_toArray, List.set_cons_zero, List.set_cons_succ]
    refine WL.nil ?_
    exact rest4 _ _ _ _ _ _ _ _ _ _ _
set_option maxRecDepth 8000 in
set_option maxHeartbeats 1000000 in
theorem tells_good (la : Option Addr) (m cap : Nat) (ua : Option Addr) (ul uc : Nat) (L : List CV) (kind un : Int) (key : ByteArray) (at_ : Nat) (hh : Array Value) (w : World) (HC : Keep (CsV w.heap.size w (.slice la m cap) L)) (HS : Keep (Sml L)) (HN : Keep (L.length ≤ 3600000000000)) (HA : Keep (at_ ≤ L.length)) (HAt : Keep (wrongI L = 0 → ∀ (i : Nat) (c : CV), L[i]? = some c → (stI c.k c.s kind key < 0 ↔ i < at_))) (root : Hs) (hwi : Keep (wrongI L = 0)) (hhe : Keep (hh = bytesA 32 (rootF L))) (hhe2 : Keep (hh = bytesA 32 root.f)) (Hr : Keep (root = shaH (rootL L))) (hkm : kmay kind = true) (hk1 : ¬ kind < 1) (hk4 : ¬ 4 < kind) :
    Calls Try.prog 6 #[.agg #[.slice la m cap, .int .i64 kind, .string key, .int .i64 un, .slice ua ul uc]] w fun e w' => e = .returned (.bool true) ∧ Below w.heap.size w w' := by
  go_enter Try.func6, Try.ntmps6
  refine wp_seq_k fun K1 hK1 => ?_
  refine wp_region_list (WL.out ?_)
  refine WL.box (by kernel_rfl) 46 (.tmp 0) rfl #[.slice la m cap, .int .i64 kind, .string key, .int .i64 un, .slice ua ul uc] rfl ?_
  have X1 := Keep.mk (Blk.new w 46 #[.slice la m cap, .int .i64 kind, .string key, .int .i64 un, .slice ua ul uc])
  have b_ := below_new w (.cells #[.slice la m cap, .int .i64 kind, .string key, .int .i64 un, .slice ua ul uc] 46)
  change WL _ _ _ _ _ (w.alloc (.cells #[.slice la m cap, .int .i64 kind, .string key, .int .i64 un, .slice ua ul uc] 46))
  generalize w.alloc (.cells #[.slice la m cap, .int .i64 kind, .string key, .int .i64 un, .slice ua ul uc] 46) = w1 at *
  obtain ⟨x, hx0⟩ : ∃ z, Keep (z = w.heap.size) := ⟨_, ⟨rfl⟩⟩
  rw [← hx0.out] at X1 ⊢
  have B1 : Keep (Below w.heap.size w w1) := ⟨b_⟩
  have gx : Keep (w.heap.size ≤ x) := ⟨by rw [hx0.out]; exact Nat.le_refl _⟩
  clear b_
  simp only [Act.put, List.setIfInBounds_toArray, List.set_cons_zero, List.set_cons_succ]
  refine WL.val (by kernel_rfl) (.bool false) (by go_simp) ?_
  simp only [Act.put, List.setIfInBounds_toArray, List.set_cons_zero, List.set_cons_succ]
  refine WL.nil ?_
  refine hK1 _ _ ?_
  refine wp_seq_k fun K2 hK2 => ?_
  refine wp_region_list (WL.out ?_)
  refine WL.val (by kernel_rfl) (.pointer (some ⟨x, 0, none⟩)) (by go_simp) ?_
  simp only [Act.put, List.setIfInBounds_toArray, List.set_cons_zero, List.set_cons_succ]
  have m_ : w1.cell? ⟨x, 0, none⟩ = some (.slice la m cap) := X1.out.c 0 rfl
  refine WL.val (by kernel_rfl) (.slice la m cap) (by go_simp) ?_
  clear m_
  simp only [Act.put, List.setIfInBounds_toArray, List.set_cons_zero, List.set_cons_succ]
  refine WL.callF (by kernel_rfl) 10 _ _ rfl Try.in10 #[.slice la m cap] (by simp [Act.eval]) ?_
  refine (pRoot_any _ L w1 ((HC.out.below B1.out).mono B1.out.size) HS.out HN.out).mono ?_
  rintro e w2 ⟨rfl, k1⟩
  refine ⟨_, rfl, ?_⟩
  rw [← hhe.out, hwi.out]
  have X2 := Keep.mk (X1.out.below k1 X1.out.lt)
  have B2 : Keep (Below w.heap.size w w2) := ⟨B1.out.trans (k1.mono B1.out.size)⟩
  clear k1
  simp only [Act.put, List.setIfInBounds_toArray, List.set_cons_zero, List.set_cons_succ]
  refine WL.val (by kernel_rfl) (.tuple #[.agg hh, .int .i64 0]) (by go_simp) ?_
  simp only [Act.put, List.setIfInBounds_toArray, List.set_cons_zero, List.set_cons_succ]
  refine WL.val (by kernel_rfl) (.agg hh) (by go_simp) ?_
  simp only [Act.put, List.setIfInBounds_toArray, List.set_cons_zero, List.set_cons_succ]
  refine WL.val (by kernel_rfl) (.int .i64 0) (by go_simp) ?_
  simp only [Act.put, List.setIfInBounds_toArray, List.set_cons_zero, List.set_cons_succ]
  refine WL.new (by kernel_rfl) 25 rfl _ Try.new25 ?_
  have A3 := Keep.mk (Blk.new w2 25 (bytesA 32 fun _ => 0))
  have b_ := below_new w2 (.cells (bytesA 32 fun _ => 0) 25)
  change WL _ _ _ _ _ (w2.alloc (.cells (bytesA 32 fun _ => 0) 25))
  generalize w2.alloc (.cells (bytesA 32 fun _ => 0) 25) = w3 at *
  obtain ⟨a, ha0⟩ : ∃ z, Keep (z = w2.heap.size) := ⟨_, ⟨rfl⟩⟩
  rw [← ha0.out] at A3 ⊢
  have X3 := Keep.mk (X2.out.below b_ X2.out.lt)
  have B3 : Keep (Below w.heap.size w w3) := ⟨B2.out.trans (b_.mono B2.out.size)⟩
  have ga : Keep (w.heap.size ≤ a) := ⟨by rw [ha0.out]; exact B2.out.size⟩
  clear b_
  have nxa : Keep (x ≠ a) := ⟨by have := X2.out.lt; have := ha0.out; omega⟩
  simp only [Act.put, List.setIfInBounds_toArray, List.set_cons_zero, List.set_cons_succ]
  refine WL.storeR (by kernel_rfl) 25 (.tmp 3) (.tmp 17) rfl a hh rfl rfl 25 (bytesA 32 fun _ => 0) A3.out (by rw [hhe2.out]; exact Try.size25B _) (by rw [hhe2.out]; exact bytesA_sizes _ _ _) (by rw [hhe2.out]; exact bytesA_one _ _) ?_
  have A4 := Keep.mk (A3.out.setRow hh)
  have B4 : Keep (Below w.heap.size w (w3.setRow a hh)) := ⟨below_setRow B3.out ga.out _⟩
  have X4 := Keep.mk (X3.out.setRow_ne nxa.out hh)
  generalize w3.setRow a hh = w4 at *
  simp only [Act.put]
  refine WL.val (by kernel_rfl) (.int .i64 0) (by go_simp) ?_
  simp only [Act.put, List.setIfInBounds_toArray, List.set_cons_zero, List.set_cons_succ]
  refine WL.nil ?_
  refine hK2 _ _ ?_
  refine wp_seq_k fun K3 hK3 => ?_
  refine wp_region_list (WL.out ?_)
  refine WL.val (by kernel_rfl) (.pointer (some ⟨x, 0, none⟩)) (by go_simp) ?_
  simp only [Act.put, List.setIfInBounds_toArray, List.set_cons_zero, List.set_cons_succ]
  have m_ : w4.cell? ⟨x, 0, none⟩ = some (.slice la m cap) := X4.out.c 0 rfl
  refine WL.val (by kernel_rfl) (.slice la m cap) (by go_simp) ?_
  clear m_
  simp only [Act.put, List.setIfInBounds_toArray, List.set_cons_zero, List.set_cons_succ]
  refine WL.val (by kernel_rfl) (.pointer (some ⟨x, 1, none⟩)) (by go_simp) ?_
  simp only [Act.put, List.setIfInBounds_toArray, List.set_cons_zero, List.set_cons_succ]
  have m_ : w4.cell? ⟨x, 1, none⟩ = some (.int .i64 kind) := X4.out.c 1 rfl
  refine WL.val (by kernel_rfl) (.int .i64 kind) (by go_simp) ?_
  clear m_
  simp only [Act.put, List.setIfInBounds_toArray, List.set_cons_zero, List.set_cons_succ]
  refine WL.val (by kernel_rfl) (.pointer (some ⟨x, 2, none⟩)) (by go_simp) ?_
  simp only [Act.put, List.setIfInBounds_toArray, List.set_cons_zero, List.set_cons_succ]
  have m_ : w4.cell? ⟨x, 2, none⟩ = some (.string key) := X4.out.c 2 rfl
  refine WL.val (by kernel_rfl) (.string key) (by go_simp) ?_
  clear m_
  simp only [Act.put, List.setIfInBounds_toArray, List.set_cons_zero, List.set_cons_succ]
  refine WL.callF (by kernel_rfl) 12 _ _ rfl Try.in12 #[.slice la m cap, .int .i64 kind, .string key] (by simp [Act.eval]) ?_
  refine (fd_any _ L kind key at_ w4 ((HC.out.below B4.out).mono B4.out.size) HS.out HN.out HA.out HAt.out).mono ?_
  rintro e w5 ⟨n1, v1, ls1, e1, rfl, k0, k1, k2, k3, k4⟩
  refine ⟨_, rfl, ?_⟩
  have S1 := Keep.mk k0
  have F1 := Keep.mk (And.intro k2 (And.intro k3 k4))
  obtain ⟨va1, vl1, vc1, hv1⟩ : ∃ a n c, v1 = .slice a n c := by
    rcases k0 with ⟨a, c, h, _⟩ | ⟨g, o, c, h, _⟩
    · exact ⟨_, _, _, h⟩
    · exact ⟨_, _, _, h⟩
  subst hv1
  have b1 := Keep.mk k1
  have X5 := Keep.mk (X4.out.below k1 X4.out.lt)
  have A5 := Keep.mk (A4.out.below k1 A4.out.lt)
  have B5 : Keep (Below w.heap.size w w5) := ⟨B4.out.trans (k1.mono B4.out.size)⟩
  clear k0 k1 k2 k3 k4
  obtain ⟨hn1, he1, hl1, hx1⟩ := F1.out.2.2 hkm hwi.out
  obtain rfl := he1
  have HL1 := Keep.mk hl1
  have HX1 := Keep.mk hx1
  have Hn1 := Keep.mk hn1
  clear hl1 hx1 hn1
  simp only [Act.put, List.setIfInBounds_toArray, List.set_cons_zero, List.set_cons_succ]
  refine WL.val (by kernel_rfl) (.tuple #[.agg (wtA n1 (.slice va1 vl1 vc1)), .int .i64 0]) (by go_simp) ?_
  simp only [Act.put, List.setIfInBounds_toArray, List.set_cons_zero, List.set_cons_succ]
  refine WL.val (by kernel_rfl) (.agg (wtA n1 (.slice va1 vl1 vc1))) (by go_simp) ?_
  simp only [Act.put, List.setIfInBounds_toArray, List.set_cons_zero, List.set_cons_succ]
  refine WL.val (by kernel_rfl) (.int .i64 0) (by go_simp) ?_
  simp only [Act.put, List.setIfInBounds_toArray, List.set_cons_zero, List.set_cons_succ]
  refine WL.new (by kernel_rfl) 31 rfl _ Try.newW ?_
  have P6 := Keep.mk (Blk.new w5 31 #[.int .i64 0, .slice none 0 0])
  have b_ := below_new w5 (.cells #[.int .i64 0, .slice none 0 0] 31)
  change WL _ _ _ _ _ (w5.alloc (.cells #[.int .i64 0, .slice none 0 0] 31))
  generalize w5.alloc (.cells #[.int .i64 0, .slice none 0 0] 31) = w6 at *
  obtain ⟨p, hp0⟩ : ∃ z, Keep (z = w5.heap.size) := ⟨_, ⟨rfl⟩⟩
  rw [← hp0.out] at P6 ⊢
  have X6 := Keep.mk (X5.out.below b_ X5.out.lt)
  have A6 := Keep.mk (A5.out.below b_ A5.out.lt)
  have B6 : Keep (Below w.heap.size w w6) := ⟨B5.out.trans (b_.mono B5.out.size)⟩
  have gp : Keep (w.heap.size ≤ p) := ⟨by rw [hp0.out]; exact B5.out.size⟩
  have n6 := Keep.mk b_
  clear b_
  have nxp : Keep (x ≠ p) := ⟨by have := X5.out.lt; have := hp0.out; omega⟩
  have nap : Keep (a ≠ p) := ⟨by have := A5.out.lt; have := hp0.out; omega⟩
  simp only [Act.put, List.setIfInBounds_toArray, List.set_cons_zero, List.set_cons_succ]
  refine WL.storeR (by kernel_rfl) 31 (.tmp 5) (.tmp 27) rfl p (wtA n1 (.slice va1 vl1 vc1)) rfl rfl 31 #[.int .i64 0, .slice none 0 0] P6.out (by rfl) rfl (by simp [wtA, Value.oneCell']) ?_
  have P7 := Keep.mk (P6.out.setRow (wtA n1 (.slice va1 vl1 vc1)))
  have B7 : Keep (Below w.heap.size w (w6.setRow p (wtA n1 (.slice va1 vl1 vc1)))) := ⟨below_setRow B6.out gp.out _⟩
  have X7 := Keep.mk (X6.out.setRow_ne nxp.out (wtA n1 (.slice va1 vl1 vc1)))
  have A7 := Keep.mk (A6.out.setRow_ne nap.out (wtA n1 (.slice va1 vl1 vc1)))
  have b7 := below_setRow n6.out (by rw [hp0.out]; exact Nat.le_refl _ : w5.heap.size ≤ p) (wtA n1 (.slice va1 vl1 vc1))
  have T7 : Keep (LsV (w6.setRow p (wtA n1 (.slice va1 vl1 vc1))).heap.size (w6.setRow p (wtA n1 (.slice va1 vl1 vc1))) (.slice va1 vl1 vc1) ls1) := ⟨(S1.out.below b7).mono b7.size⟩
  clear b7
  generalize w6.setRow p (wtA n1 (.slice va1 vl1 vc1)) = w7 at *
  simp only [Act.put]
  refine WL.val (by kernel_rfl) (.int .i64 0) (by go_simp) ?_
  simp only [Act.put, List.setIfInBounds_toArray, List.set_cons_zero, List.set_cons_succ]
  refine WL.nil ?_
  refine hK3 _ _ ?_
  refine wp_seq_k fun K4 hK4 => ?_
  refine wp_region_list (WL.out ?_)
  refine WL.val (by kernel_rfl) (.pointer (some ⟨x, 0, none⟩)) (by go_simp) ?_
  simp only [Act.put, List.setIfInBounds_toArray, List.set_cons_zero, List.set_cons_succ]
  have m_ : w7.cell? ⟨x, 0, none⟩ = some (.slice la m cap) := X7.out.c 0 rfl
  refine WL.val (by kernel_rfl) (.slice la m cap) (by go_simp) ?_
  clear m_
  simp only [Act.put, List.setIfInBounds_toArray, List.set_cons_zero, List.set_cons_succ]
  refine WL.callF (by kernel_rfl) 18 _ _ rfl Try.in18 #[.slice la m cap] (by simp [Act.eval]) ?_
  refine (wrong_any w.heap.size _ L w7 (HC.out.below B7.out) B7.out.size (by have := HN.out; omega)).mono ?_
  rintro e w8 ⟨rfl, k1⟩
  refine ⟨_, rfl, ?_⟩
  rw [hwi.out]
  have X8 := Keep.mk (X7.out.below k1 X7.out.lt)
  have A8 := Keep.mk (A7.out.below k1 A7.out.lt)
  have P8 := Keep.mk (P7.out.below k1 P7.out.lt)
  have T8 := Keep.mk ((T7.out.below k1).mono k1.size)
  have B8 : Keep (Below w.heap.size w w8) := ⟨B7.out.trans (k1.mono B7.out.size)⟩
  clear k1
  have m_ : w8.cell? ⟨x, 1, none⟩ = some (.int .i64 kind) := X8.out.c 1 rfl
  simp only [Act.put, List.setIfInBounds_toArray, List.set_cons_zero, List.set_cons_succ]
  refine WL.val (by kernel_rfl) (.int .i64 0) (by go_simp) ?_
  simp only [Act.put, List.setIfInBounds_toArray, List.set_cons_zero, List.set_cons_succ]
  refine WL.nil ?_
  refine hK4 _ _ ?_
  refine wp_seq_k fun K5 hK5 => ?_
  refine wp_seq_k fun K6 hK6 => ?_
  refine wp_region_list (WL.out ?_)
  refine WL.val (by kernel_rfl) (.int .i64 0) (by go_simp) ?_
  simp only [Act.put, List.setIfInBounds_toArray, List.set_cons_zero, List.set_cons_succ]
  refine WL.val (by kernel_rfl) (.bool false) (by go_simp) ?_
  simp only [Act.put, List.setIfInBounds_toArray, List.set_cons_zero, List.set_cons_succ]
  refine WL.val (by kernel_rfl) (.bool false) (by go_simp) ?_
  simp only [Act.put, List.setIfInBounds_toArray, List.set_cons_zero, List.set_cons_succ]
  refine WL.val (by kernel_rfl) (.pointer (some ⟨x, 1, none⟩)) (by go_simp) ?_
  simp only [Act.put, List.setIfInBounds_toArray, List.set_cons_zero, List.set_cons_succ]
  refine WL.val (by kernel_rfl) (.int .i64 kind) (by go_simp) ?_
  simp only [Act.put, List.setIfInBounds_toArray, List.set_cons_zero, List.set_cons_succ]
  refine WL.val (by kernel_rfl) (.bool false) (by go_simp) ?_
  simp only [Act.put, List.setIfInBounds_toArray, List.set_cons_zero, List.set_cons_succ]
  refine WL.val (by kernel_rfl) (.bool false) (by go_simp) ?_
  simp only [Act.put, List.setIfInBounds_toArray, List.set_cons_zero, List.set_cons_succ]
  refine WL.val (by kernel_rfl) (.bool false) (by go_simp) ?_
  simp only [Act.put, List.setIfInBounds_toArray, List.set_cons_zero, List.set_cons_succ]
  refine WL.val (by kernel_rfl) (.pointer (some ⟨x, 1, none⟩)) (by go_simp) ?_
  simp only [Act.put, List.setIfInBounds_toArray, List.set_cons_zero, List.set_cons_succ]
  refine WL.val (by kernel_rfl) (.int .i64 kind) (by go_simp) ?_
  simp only [Act.put, List.setIfInBounds_toArray, List.set_cons_zero, List.set_cons_succ]
  refine WL.val (by kernel_rfl) (.bool false) (by go_simp) ?_
  simp only [Act.put, List.setIfInBounds_toArray, List.set_cons_zero, List.set_cons_succ]
  refine WL.val (by kernel_rfl) (.bool false) (by go_simp) ?_
  simp only [Act.put, List.setIfInBounds_toArray, List.set_cons_zero, List.set_cons_succ]
  refine WL.nil ?_
  refine hK6 _ _ ?_
  refine wp_cond_false rfl ?_
  refine wp_skip ?_
  refine hK5 _ _ ?_
  refine wp_seq_k fun K7 hK7 => ?_
  refine wp_seq_k fun K8 hK8 => ?_
  refine wp_region_list (WL.out ?_)
  refine WL.val (by kernel_rfl) (.int .i64 0) (by go_simp) ?_
  simp only [Act.put, List.setIfInBounds_toArray, List.set_cons_zero, List.set_cons_succ]
  refine WL.val (by kernel_rfl) (.bool false) (by go_simp) ?_
  simp only [Act.put, List.setIfInBounds_toArray, List.set_cons_zero, List.set_cons_succ]
  refine WL.val (by kernel_rfl) (.bool false) (by go_simp) ?_
  simp only [Act.put, List.setIfInBounds_toArray, List.set_cons_zero, List.set_cons_succ]
  refine WL.val (by kernel_rfl) (.int .i64 0) (by go_simp) ?_
  simp only [Act.put, List.setIfInBounds_toArray, List.set_cons_zero, List.set_cons_succ]
  refine WL.val (by kernel_rfl) (.bool false) (by go_simp) ?_
  simp only [Act.put, List.setIfInBounds_toArray, List.set_cons_zero, List.set_cons_succ]
  refine WL.val (by kernel_rfl) (.bool false) (by go_simp) ?_
  simp only [Act.put, List.setIfInBounds_toArray, List.set_cons_zero, List.set_cons_succ]
  refine WL.nil ?_
  refine hK8 _ _ ?_
  refine wp_cond_false rfl ?_
  refine wp_skip ?_
  refine hK7 _ _ ?_
  refine wp_seq_k fun K9 hK9 => ?_
  refine wp_region_list (WL.out ?_)
  clear m_
  refine WL.row (by kernel_rfl) 25 (.tmp 3) rfl a rfl 25 hh _ A8.out Try.underlying25 rfl (by rw [hhe2.out]; exact Try.size25B _) ?_
  simp only [Act.put, List.setIfInBounds_toArray, List.set_cons_zero, List.set_cons_succ]
  refine WL.val (by kernel_rfl) (.pointer (some ⟨x, 1, none⟩)) (by go_simp) ?_
  simp only [Act.put, List.setIfInBounds_toArray, List.set_cons_zero, List.set_cons_succ]
  have m_ : w8.cell? ⟨x, 1, none⟩ = some (.int .i64 kind) := X8.out.c 1 rfl
  refine WL.val (by kernel_rfl) (.int .i64 kind) (by go_simp) ?_
  clear m_
  simp only [Act.put, List.setIfInBounds_toArray, List.set_cons_zero, List.set_cons_succ]
  refine WL.val (by kernel_rfl) (.pointer (some ⟨x, 2, none⟩)) (by go_simp) ?_
  simp only [Act.put, List.setIfInBounds_toArray, List.set_cons_zero, List.set_cons_succ]
  have m_ : w8.cell? ⟨x, 2, none⟩ = some (.string key) := X8.out.c 2 rfl
  refine WL.val (by kernel_rfl) (.string key) (by go_simp) ?_
  clear m_
  simp only [Act.put, List.setIfInBounds_toArray, List.set_cons_zero, List.set_cons_succ]
  refine WL.row (by kernel_rfl) 31 (.tmp 5) rfl p rfl 31 (wtA n1 (.slice va1 vl1 vc1)) _ P8.out Try.underlying31 rfl (by rfl) ?_
  simp only [Act.put, List.setIfInBounds_toArray, List.set_cons_zero, List.set_cons_succ]
  have hck := pcheck_any _ n1 kind key ls1 root w8 T8.out (by rw [Hn1.out]; have := HN.out; omega) (fd_sml HS.out HN.out HL1.out HX1.out)
  rw [← hhe2.out] at hck
  refine WL.callF (by kernel_rfl) 15 _ _ rfl Try.in15 #[.agg hh, .int .i64 kind, .string key, .agg (wtA n1 (.slice va1 vl1 vc1))] (by simp [Act.eval]) ?_
  refine (hck).mono ?_
  rintro e w9 ⟨c, rfl, k0, k1, k2, k3⟩
  refine ⟨_, rfl, ?_⟩
  clear hck
  have C9 := Keep.mk k0
  rw [Hn1.out] at k2 k3 ⊢
  have K2 := Keep.mk k2
  have K3 := Keep.mk k3
  obtain ⟨ce, hce⟩ : ∃ z, Keep (chkE root (L.length : Int) kind key ls1 = z) := ⟨_, ⟨rfl⟩⟩
  obtain ⟨ci, hci⟩ : ∃ z, Keep (chkI root (L.length : Int) kind key ls1 = z) := ⟨_, ⟨rfl⟩⟩
  rw [hce.out, hci.out]
  have X9 := Keep.mk (X8.out.below k1 X8.out.lt)
  have B9 : Keep (Below w.heap.size w w9) := ⟨B8.out.trans (k1.mono B8.out.size)⟩
  clear k0 k1 k2 k3
  simp only [Act.put, List.setIfInBounds_toArray, List.set_cons_zero, List.set_cons_succ]
  refine WL.val (by kernel_rfl) (.tuple #[.agg (cvA c), .bool ci, .int .i64 ce]) (by go_simp) ?_
  simp only [Act.put, List.setIfInBounds_toArray, List.set_cons_zero, List.set_cons_succ]
  refine WL.val (by kernel_rfl) (.agg (cvA c)) (by go_simp) ?_
  simp only [Act.put, List.setIfInBounds_toArray, List.set_cons_zero, List.set_cons_succ]
  refine WL.val (by kernel_rfl) (.bool ci) (by go_simp) ?_
  simp only [Act.put, List.setIfInBounds_toArray, List.set_cons_zero, List.set_cons_succ]
  refine WL.val (by kernel_rfl) (.int .i64 ce) (by go_simp) ?_
  simp only [Act.put, List.setIfInBounds_toArray, List.set_cons_zero, List.set_cons_succ]
  refine WL.new (by kernel_rfl) 40 rfl _ Try.newC ?_
  have Q10 := Keep.mk (Blk.new w9 40 #[.int .i64 0, .string ByteArray.empty, .slice none 0 0])
  have b_ := below_new w9 (.cells #[.int .i64 0, .string ByteArray.empty, .slice none 0 0] 40)
  change WL _ _ _ _ _ (w9.alloc (.cells #[.int .i64 0, .string ByteArray.empty, .slice none 0 0] 40))
  generalize w9.alloc (.cells #[.int .i64 0, .string ByteArray.empty, .slice none 0 0] 40) = w10 at *
  obtain ⟨q, hq0⟩ : ∃ z, Keep (z = w9.heap.size) := ⟨_, ⟨rfl⟩⟩
  rw [← hq0.out] at Q10 ⊢
  have X10 := Keep.mk (X9.out.below b_ X9.out.lt)
  have B10 : Keep (Below w.heap.size w w10) := ⟨B9.out.trans (b_.mono B9.out.size)⟩
  have gq : Keep (w.heap.size ≤ q) := ⟨by rw [hq0.out]; exact B9.out.size⟩
  have n10 := Keep.mk b_
  clear b_
  have nxq : Keep (x ≠ q) := ⟨by have := X9.out.lt; have := hq0.out; omega⟩
  simp only [Act.put, List.setIfInBounds_toArray, List.set_cons_zero, List.set_cons_succ]
  refine WL.storeR (by kernel_rfl) 40 (.tmp 8) (.tmp 75) rfl q (cvA c) rfl rfl 40 #[.int .i64 0, .string ByteArray.empty, .slice none 0 0] Q10.out (Try.sizeC _ _ _) rfl (cvA_one1 C9.out) ?_
  have Q11 := Keep.mk (Q10.out.setRow (cvA c))
  have B11 : Keep (Below w.heap.size w (w10.setRow q (cvA c))) := ⟨below_setRow B10.out gq.out _⟩
  have X11 := Keep.mk (X10.out.setRow_ne nxq.out (cvA c))
  have C11 : Keep (RowAt (w10.setRow q (cvA c)) c.v c.l) := ⟨C9.out.below (below_setRow n10.out (by rw [hq0.out]; exact Nat.le_refl _) _)⟩
  generalize w10.setRow q (cvA c) = w11 at *
  simp only [Act.put]
  refine WL.val (by kernel_rfl) (.bool ci) (by go_simp) ?_
  simp only [Act.put, List.setIfInBounds_toArray, List.set_cons_zero, List.set_cons_succ]
  refine WL.val (by kernel_rfl) (.int .i64 ce) (by go_simp) ?_
  simp only [Act.put, List.setIfInBounds_toArray, List.set_cons_zero, List.set_cons_succ]
  refine WL.nil ?_
  refine hK9 _ _ ?_
  refine wp_seq_k fun K10 hK10 => ?_
  refine wp_region_list (WL.out ?_)
  refine WL.val (by kernel_rfl) (.pointer (some ⟨x, 0, none⟩)) (by go_simp) ?_
  simp only [Act.put, List.setIfInBounds_toArray, List.set_cons_zero, List.set_cons_succ]
  have m_ : w11.cell? ⟨x, 0, none⟩ = some (.slice la m cap) := X11.out.c 0 rfl
  refine WL.val (by kernel_rfl) (.slice la m cap) (by go_simp) ?_
  clear m_
  simp only [Act.put, List.setIfInBounds_toArray, List.set_cons_zero, List.set_cons_succ]
  refine WL.val (by kernel_rfl) (.pointer (some ⟨x, 1, none⟩)) (by go_simp) ?_
  simp only [Act.put, List.setIfInBounds_toArray, List.set_cons_zero, List.set_cons_succ]
  have m_ : w11.cell? ⟨x, 1, none⟩ = some (.int .i64 kind) := X11.out.c 1 rfl
  refine WL.val (by kernel_rfl) (.int .i64 kind) (by go_simp) ?_
  clear m_
  simp only [Act.put, List.setIfInBounds_toArray, List.set_cons_zero, List.set_cons_succ]
  refine WL.val (by kernel_rfl) (.pointer (some ⟨x, 2, none⟩)) (by go_simp) ?_
  simp only [Act.put, List.setIfInBounds_toArray, List.set_cons_zero, List.set_cons_succ]
  have m_ : w11.cell? ⟨x, 2, none⟩ = some (.string key) := X11.out.c 2 rfl
  refine WL.val (by kernel_rfl) (.string key) (by go_simp) ?_
  clear m_
  simp only [Act.put, List.setIfInBounds_toArray, List.set_cons_zero, List.set_cons_succ]
  refine WL.callF (by kernel_rfl) 19 _ _ rfl Try.in19 #[.slice la m cap, .int .i64 kind, .string key] (by simp [Act.eval]) ?_
  refine (st_any _ L kind key w11 ((HC.out.below B11.out).mono B11.out.size) HN.out).mono ?_
  rintro e w12 ⟨d, yes, rfl, k0, k1, k2, k3⟩
  refine ⟨_, rfl, ?_⟩
  have D12 := Keep.mk k0
  have C12 := Keep.mk (C11.out.below k1)
  have Q12 := Keep.mk (Q11.out.below k1 Q11.out.lt)
  have B12 : Keep (Below w.heap.size w w12) := ⟨B11.out.trans (k1.mono B11.out.size)⟩
  have hte := tells_eq hwi.out hkm HA.out (HAt.out hwi.out) HL1.out HX1.out Hr.out K2.out K3.out k2 k3
  rw [hce.out, hci.out] at hte
  have HSa := Keep.mk hte.2.2
  obtain ⟨h1, h2, -⟩ := hte
  subst h1 h2
  clear k0 k1 k2 k3
  simp only [Act.put, List.setIfInBounds_toArray, List.set_cons_zero, List.set_cons_succ]
  refine WL.val (by kernel_rfl) (.tuple #[.agg (cvA d), .bool ci]) (by go_simp) ?_
  simp only [Act.put, List.setIfInBounds_toArray, List.set_cons_zero, List.set_cons_succ]
  refine WL.val (by kernel_rfl) (.agg (cvA d)) (by go_simp) ?_
  simp only [Act.put, List.setIfInBounds_toArray, List.set_cons_zero, List.set_cons_succ]
  refine WL.val (by kernel_rfl) (.bool ci) (by go_simp) ?_
  simp only [Act.put, List.setIfInBounds_toArray, List.set_cons_zero, List.set_cons_succ]
  refine WL.new (by kernel_rfl) 40 rfl _ Try.newC ?_
  have S13 := Keep.mk (Blk.new w12 40 #[.int .i64 0, .string ByteArray.empty, .slice none 0 0])
  have b_ := below_new w12 (.cells #[.int .i64 0, .string ByteArray.empty, .slice none 0 0] 40)
  change WL _ _ _ _ _ (w12.alloc (.cells #[.int .i64 0, .string ByteArray.empty, .slice none 0 0] 40))
  generalize w12.alloc (.cells #[.int .i64 0, .string ByteArray.empty, .slice none 0 0] 40) = w13 at *
  obtain ⟨s, hs0⟩ : ∃ z, Keep (z = w12.heap.size) := ⟨_, ⟨rfl⟩⟩
  rw [← hs0.out] at S13 ⊢
  have Q13 := Keep.mk (Q12.out.below b_ Q12.out.lt)
  have B13 : Keep (Below w.heap.size w w13) := ⟨B12.out.trans (b_.mono B12.out.size)⟩
  have gs : Keep (w.heap.size ≤ s) := ⟨by rw [hs0.out]; exact B12.out.size⟩
  have n13 := Keep.mk b_
  clear b_
  have nqs : Keep (q ≠ s) := ⟨by have := Q12.out.lt; have := hs0.out; omega⟩
  simp only [Act.put, List.setIfInBounds_toArray, List.set_cons_zero, List.set_cons_succ]
  refine WL.storeR (by kernel_rfl) 40 (.tmp 11) (.tmp 86) rfl s (cvA d) rfl rfl 40 #[.int .i64 0, .string ByteArray.empty, .slice none 0 0] S13.out (Try.sizeC _ _ _) rfl (cvA_one1 D12.out) ?_
  have S14 := Keep.mk (S13.out.setRow (cvA d))
  have B14 : Keep (Below w.heap.size w (w13.setRow s (cvA d))) := ⟨below_setRow B13.out gs.out _⟩
  have Q14 := Keep.mk (Q13.out.setRow_ne nqs.out (cvA d))
  have b14 := below_setRow n13.out (by rw [hs0.out]; exact Nat.le_refl _ : w12.heap.size ≤ s) (cvA d)
  have C14 := Keep.mk (C12.out.below b14)
  have D14 := Keep.mk (D12.out.below b14)
  clear b14
  generalize w13.setRow s (cvA d) = w14 at *
  have hii : (ci == ci) = true := by cases ci <;> rfl
  simp only [Act.put]
  refine WL.val (by kernel_rfl) (.bool ci) (by go_simp) ?_
  simp only [Act.put, List.setIfInBounds_toArray, List.set_cons_zero, List.set_cons_succ]
  refine WL.nil ?_
  refine hK10 _ _ ?_
  refine wp_seq_k fun K11 hK11 => ?_
  refine wp_region_list (WL.out ?_)
  refine WL.val (by kernel_rfl) (.int .i64 0) (by go_simp) ?_
  simp only [Act.put, List.setIfInBounds_toArray, List.set_cons_zero, List.set_cons_succ]
  refine WL.val (by kernel_rfl) (.bool true) (by go_simp) ?_
  simp only [Act.put, List.setIfInBounds_toArray, List.set_cons_zero, List.set_cons_succ]
  refine WL.val (by kernel_rfl) (.bool true) (by go_simp) ?_
  simp only [Act.put, List.setIfInBounds_toArray, List.set_cons_zero, List.set_cons_succ]
  refine WL.val (by kernel_rfl) (.bool ci) (by go_simp) ?_
  simp only [Act.put, List.setIfInBounds_toArray, List.set_cons_zero, List.set_cons_succ]
  refine WL.val (by kernel_rfl) (.bool ci) (by go_simp) ?_
  simp only [Act.put, List.setIfInBounds_toArray, List.set_cons_zero, List.set_cons_succ]
  refine WL.val (by kernel_rfl) (.bool true) (by go_simp) ?_
  simp only [Act.put, List.setIfInBounds_toArray, List.set_cons_zero, List.set_cons_succ]
  refine WL.val (by kernel_rfl) (.bool true) (by go_simp) ?_
  simp only [Act.put, List.setIfInBounds_toArray, List.set_cons_zero, List.set_cons_succ]
  refine WL.val (by kernel_rfl) (.bool true) (by go_simp) ?_
  simp only [Act.put, List.setIfInBounds_toArray, List.set_cons_zero, List.set_cons_succ]
  refine WL.row (by kernel_rfl) 40 (.tmp 8) rfl q rfl 40 (cvA c) _ Q14.out Try.underlying40 rfl (Try.sizeC _ _ _) ?_
  simp only [Act.put, List.setIfInBounds_toArray, List.set_cons_zero, List.set_cons_succ]
  refine WL.row (by kernel_rfl) 40 (.tmp 11) rfl s rfl 40 (cvA d) _ S14.out Try.underlying40 rfl (Try.sizeC _ _ _) ?_
  simp only [Act.put, List.setIfInBounds_toArray, List.set_cons_zero, List.set_cons_succ]
  refine WL.callF (by kernel_rfl) 17 _ _ rfl Try.in17 #[.agg (cvA c), .agg (cvA d)] (by simp [Act.eval]) ?_
  refine (sameC_any c d w14 C14.out D14.out).mono ?_
  rintro e w15 ⟨rfl, k1⟩
  refine ⟨_, rfl, ?_⟩
  rw [HSa.out]
  have B15 : Keep (Below w.heap.size w w15) := ⟨B14.out.trans (k1.mono B14.out.size)⟩
  clear k1
  simp only [Act.put, List.setIfInBounds_toArray, List.set_cons_zero, List.set_cons_succ]
  refine WL.val (by kernel_rfl) (.bool true) (by go_simp) ?_
  simp only [Act.put, List.setIfInBounds_toArray, List.set_cons_zero, List.set_cons_succ]
  refine WL.val (by kernel_rfl) (.bool true) (by go_simp) ?_
  simp only [Act.put, List.setIfInBounds_toArray, List.set_cons_zero, List.set_cons_succ]
  refine WL.callF (by kernel_rfl) 9 _ _ rfl Try.in9 #[] (by simp) ?_
  refine (fixed_any w15).mono ?_
  rintro e w16 ⟨rfl, k1⟩
  refine ⟨_, rfl, ?_⟩
  have B16 : Keep (Below w.heap.size w w16) := ⟨B15.out.trans (k1.mono B15.out.size)⟩
  clear k1
  simp only [Act.put, List.setIfInBounds_toArray, List.set_cons_zero, List.set_cons_succ]
  refine WL.val (by kernel_rfl) (.bool true) (by go_simp) ?_
  simp only [Act.put, List.setIfInBounds_toArray, List.set_cons_zero, List.set_cons_succ]
  refine WL.val (by kernel_rfl) (.bool true) (by go_simp) ?_
  simp only [Act.put, List.setIfInBounds_toArray, List.set_cons_zero, List.set_cons_succ]
  refine WL.nil ?_
  refine hK11 _ _ ?_
  refine wp_ret ?_
  go_ret
  exact ⟨rfl, B16.out⟩
theorem tells_any (v u : Value) (L : List CV) (ls : List LV) (kind un : Int) (key : ByteArray) (w : World) (hC : CsV w.heap.size w v L) (hL : LsV w.heap.size w u ls) (hS : Sml L) (hN : L.length ≤ 3600000000000) :
    Calls Try.prog 6 #[.agg #[v, .int .i64 kind, .string key, .int .i64 un, u]] w fun e w' => e = .returned (.bool true) ∧ Below w.heap.size w w' := by
  obtain ⟨ua, ul, uc, rfl⟩ : ∃ a n c, u = .slice a n c := by
    rcases hL with ⟨a, c, h, _⟩ | ⟨g, o, c, h, _⟩
    · exact ⟨_, _, _, h⟩
    · exact ⟨_, _, _, h⟩
  obtain ⟨la, cap, rfl⟩ : ∃ la cap, v = .slice la L.length cap := by
    rcases hC with ⟨a, c, rfl, rfl⟩ | ⟨b, off, cap, rfl, _⟩
    · exact ⟨a, c, rfl⟩
    · exact ⟨_, cap, rfl⟩
  by_cases hW : wrongI L = 0
  · obtain ⟨a, h1, h2⟩ := at_of kind key hW
    cases hk : kmay kind
    · exact tells_bad la _ cap ua ul uc L kind un key a _ w ⟨hC⟩ ⟨hS⟩ ⟨hN⟩ ⟨h1⟩ ⟨fun _ => h2⟩ _ ⟨rfl⟩ ⟨rfl⟩ ⟨.inr hk⟩
    · have hk' := hk
      simp [kmay] at hk'
      exact tells_good la _ cap ua ul uc L kind un key a _ w ⟨hC⟩ ⟨hS⟩ ⟨hN⟩ ⟨h1⟩ ⟨fun _ => h2⟩ (shaH (rootL L)) ⟨hW⟩ ⟨rfl⟩ ⟨by unfold rootF; rw [if_pos hW]; exact bytesA_congr fun i hi => (shaH_f _ i hi).symm⟩ ⟨rfl⟩ hk (by omega) (by omega)
  · exact tells_bad la _ cap ua ul uc L kind un key 0 _ w ⟨hC⟩ ⟨hS⟩ ⟨hN⟩ ⟨Nat.zero_le _⟩ ⟨fun h => absurd h hW⟩ _ ⟨rfl⟩ ⟨rfl⟩ ⟨.inl hW⟩

end Go.Proofs.Ytjklmkeedhgncaa
namespace Go.Proofs.Ytjklmkeedhgncaa
open Go.ChangeShapes Go.WideShapes Go.ChangeAt Go.RowKit Go.Deep
set_option linter.unusedSimpArgs false
set_option linter.unusedVariables false
theorem Try.cellsOf3 : Try.prog.cellsOf 3 = 1 := by kernel_rfl
theorem Try.cellsOf9 : Try.prog.cellsOf 9 = 1 := by kernel_rfl
theorem Try.cellsOf5 : Try.prog.cellsOf 5 = 1 := by kernel_rfl
theorem Try.cellsOf38 : Try.prog.cellsOf 38 = 1 := by kernel_rfl
theorem Try.cellsOf67 : Try.prog.cellsOf 67 = 1 := by kernel_rfl
theorem Try.cellsOf25 : Try.prog.cellsOf 25 = 32 := by kernel_rfl
theorem Try.cellsOf40 : Try.prog.cellsOf 40 = 3 := by kernel_rfl
theorem Try.bytesOf5 : Try.prog.bytesOf 5 = 1 := by kernel_rfl
theorem reach_is : reachBytes = 140737488351232 := by decide
theorem add_none' (b o i : Nat) : (⟨b, o, none⟩ : Addr).add i = ⟨b, o + i, none⟩ := by
  cases i with
  | zero => rfl
  | succ i => rfl
theorem wf_u8 {n : Int} (h : (Lit.int .u8 n).wf = true) : 0 ≤ n ∧ n < 256 := by
  have h1 : IntKind.u8.min = 0 := by decide
  have h2 : IntKind.u8.max = 255 := by decide
  simp only [Lit.wf, h1, h2, Bool.and_eq_true, decide_eq_true_eq] at h
  omega
theorem wf_i64 {n : Int} (h : (Lit.int .i64 n).wf = true) : -9223372036854775808 ≤ n ∧ n ≤ 9223372036854775807 := by
  have h1 : IntKind.i64.min = -9223372036854775808 := by decide
  have h2 : IntKind.i64.max = 9223372036854775807 := by decide
  simp only [Lit.wf, h1, h2, Bool.and_eq_true, decide_eq_true_eq] at h
  omega

theorem row_of_trod {H : Type} {enc : TypeId × Value → H} {W : World} {sp : Nat → Bool} {held : Bool} {n base : Nat} {v : Value} {x : DataW H × List MemPlace} (hf : DataW.trod enc Try.prog W base sp held n 38 [v] = some x) (hw : ∀ n ∈ x.1.weights Try.prog 38, n ≤ reachBytes) :
    ∃ l : List Int, RowAt W v l ∧ Byts l ∧ l.length ≤ 140737488351232 := by
  rcases open_ints Try.underlying38 Try.underlying5 Try.cellsOf5 hf with ⟨hcs, _⟩ | ⟨a, len, cap, zs, hcs, _, hl, hm, hz, hx, hcell, hwz⟩
  · simp at hcs
    subst hcs
    exact ⟨[], .inl ⟨rfl, rfl⟩, Byts.nil, by simp⟩
  · simp at hcs
    subst hcs
    unfold maxLen at hm
    have hlz : len ≤ zs.length := by rw [hz]; split <;> omega
    have hbz : Byts zs := fun c hc => wf_u8 (hwz c hc)
    have hb : len ≤ 140737488351232 := by
      have h1 := hw ((zs.take len).length + (zs.drop len).length) (by
        rw [hx]
        simp only [DataW.weights, Try.underlying38]
        simp [lits, Try.bytesOf5])
      rw [List.length_take, reach_is] at h1
      omega
    by_cases h0 : len = 0
    · subst h0
      exact ⟨[], .inr (.inl ⟨a, cap, rfl, rfl⟩), Byts.nil, by simp⟩
    · have hs : a.spot = none := by
        have := hcell 0 (by omega)
        rw [show a.add 0 = a from rfl] at this
        exact World.cell?_spot this
      obtain ⟨b, off, sp⟩ := a
      obtain rfl : sp = none := hs
      have hlen : (zs.take len).length = len := by rw [List.length_take]; omega
      refine ⟨zs.take len, .inr (.inr ⟨b, off, cap, by rw [hlen], by omega, fun i hi => ?_⟩), hbz.take len, by omega⟩
      rw [hlen] at hi
      have := hcell i (by omega)
      rw [add_none'] at this
      rw [this]
      simp [List.getD, hi]
theorem trod_struct3 {H : Type} {enc : TypeId × Value → H} {P : Program} {w : World} {base : Nat} {spare : Nat → Bool} {held : Bool} {t : TypeId} {f0 f1 f2 : Field} {fuel : Nat} {cs : List Value} {x : DataW H × List MemPlace} (ht : P.underlying t = some (.struct #[f0, f1, f2])) (h : DataW.trod enc P w base spare held fuel t cs = some x) :
    ∃ y0 y1 y2 n, x.1 = .agg [y0.1, y1.1, y2.1] ∧ cs.length = P.cellsOf t ∧ DataW.trod enc P w base spare held n f0.type ((cs.drop f0.offset).take (P.cellsOf f0.type)) = some y0 ∧
      DataW.trod enc P w base spare held n f1.type ((cs.drop f1.offset).take (P.cellsOf f1.type)) = some y1 ∧ DataW.trod enc P w base spare held n f2.type ((cs.drop f2.offset).take (P.cellsOf f2.type)) = some y2 := by
  obtain ⟨xs, n, _, rfl, hl, hlen, hf⟩ := DataW.trod_struct ht h
  match xs, hlen with
  | [y0, y1, y2], _ => exact ⟨y0, y1, y2, n, by simp, hl, by simpa using hf 0 f0 rfl, by simpa using hf 1 f1 rfl, by simpa using hf 2 f2 rfl⟩
theorem take_one {l : List Value} {i : Nat} {v : Value} (h : (l.drop i).take 1 = [v]) : l[i]? = some v := by
  have h2 : ((l.drop i).take 1)[0]? = some v := by rw [h]; rfl
  rw [List.getElem?_take, if_pos (by omega), List.getElem?_drop] at h2
  simpa using h2
theorem hash_of_trod {H : Type} {enc : TypeId × Value → H} {W : World} {sp : Nat → Bool} {held : Bool} {n base : Nat} {l : List Value} {x : DataW H × List MemPlace} (hf : DataW.trod enc Try.prog W base sp held n 25 l = some x) :
    ∃ c : Nat → Int, l = (bytesA 32 c).toList ∧ ∀ i, i < 32 → 0 ≤ c i ∧ c i < 256 := by
  obtain ⟨xs, m, _, _, hl, hx, hel⟩ := DataW.trod_array Try.underlying25 hf
  rw [Try.cellsOf25] at hl
  rw [Try.cellsOf5] at hel
  have each : ∀ i, i < 32 → ∃ z : Int, l[i]? = some (.int .u8 z) ∧ 0 ≤ z ∧ z < 256 := by
    intro i hi
    have h1 := hel i hi
    rw [List.getElem?_eq_getElem (by omega), Nat.mul_one] at h1
    obtain ⟨z, hz, _, hw⟩ := DataW.trod_int Try.underlying5 h1
    have hb := wf_u8 hw
    exact ⟨z, take_one hz, by omega, by omega⟩
  obtain ⟨c, hc⟩ := Go.Deep.choose_lt each
  refine ⟨c, ?_, fun i hi => (hc i hi).2⟩
  apply List.ext_getElem?
  intro i
  by_cases hi : i < 32
  · rw [(hc i hi).1, Array.getElem?_toList, bytesA_get _ _ _ hi]
  · rw [List.getElem?_eq_none (by omega), List.getElem?_eq_none (by rw [Array.length_toList, bytesA_size]; omega)]
theorem hrow_of_trod {H : Type} {enc : TypeId × Value → H} {W : World} {sp : Nat → Bool} {held : Bool} {n base : Nat} {v : Value} {x : DataW H × List MemPlace} (hf : DataW.trod enc Try.prog W base sp held n 67 [v] = some x) :
    ∃ L : List Hs, HRow W v L ∧ (L = [] ∨ ∃ (D : Nat → DataW H) (rest : List (DataW H)), x.1 = .slice ((List.range L.length).map D) rest) := by
  rcases open_slice Try.underlying67 hf with ⟨hcs, _⟩ | ⟨a, len, cap, m, n, D, Pl, hcs, _, hl, hm, hz, hx, hcell⟩
  · simp at hcs
    subst hcs
    exact ⟨[], .inl ⟨none, 0, rfl, rfl, fun _ => rfl⟩, .inl rfl⟩
  · simp at hcs
    subst hcs
    have hlz : len ≤ m := by rw [hz]; split <;> omega
    by_cases h0 : len = 0
    · subst h0
      exact ⟨[], .inl ⟨some a, cap, rfl, rfl, fun h => by cases h⟩, .inl rfl⟩
    · have each0 : ∀ i, i < len → ∃ c : Nat → Int, (∀ j, j < 32 → 0 ≤ c j ∧ c j < 256) ∧ ∀ j, j < 32 → W.cell? ((a.add (i * 32)).add j) = some (.int .u8 (c j)) := by
        intro i hi
        obtain ⟨cs', h1, h2⟩ := hcell i (by omega)
        rw [Try.cellsOf25] at h1
        obtain ⟨_, hlen, hce⟩ := World.cells?_some h1
        obtain ⟨c, hcs, hc⟩ := hash_of_trod h2
        refine ⟨c, hc, fun j hj => ?_⟩
        rw [hce j hj, hcs, Array.getElem?_toList, bytesA_get 32 c j hj]
      have hs : a.spot = none := by
        obtain ⟨c, _, h3⟩ := each0 0 (by omega)
        have h4 := h3 0 (by omega)
        rw [Nat.zero_mul, show (a.add 0).add 0 = a from rfl] at h4
        exact World.cell?_spot h4
      obtain ⟨b, off, sp⟩ := a
      obtain rfl : sp = none := hs
      have each : ∀ i, i < len → ∃ y : Hs, W.rangeAt b (off + i * 32) (encH y) := by
        intro i hi
        obtain ⟨c, hc, h3⟩ := each0 i hi
        refine ⟨Hs.mk' c hc, fun j v hv => ?_⟩
        have hj : j < 32 := by have := (List.getElem?_eq_some_iff.1 hv).1; rwa [encH_len] at this
        rw [encH_get _ _ hj, Hs.mk'_f _ _ _ hj] at hv
        have h4 := h3 j hj
        rw [Addr.add_mid, Addr.add_mid] at h4
        rw [h4]; exact hv
      obtain ⟨y, hy⟩ := Go.Deep.choose_lt each
      refine ⟨(List.range len).map y, .inr ⟨b, off, cap, by simp, by simpa using hl, rangeAt_of_elems fun i hi => ?_⟩, .inr ⟨D, (List.range (m - len)).map fun j => D (len + j), ?_⟩⟩
      · have hi' : i < len := by simpa using hi
        simpa using hy i hi'
      · rw [hx]; simp
theorem bulk_one {H : Type} (d : DataW H) : 1 ≤ Rows.uptoBulk d := by
  unfold Rows.uptoBulk
  split <;> omega
theorem bulk_all {H : Type} : ∀ l : List (DataW H), l.length ≤ Rows.uptoBulkAll l
  | [] => Nat.zero_le _
  | d :: r => by
    have h1 := bulk_all r
    have h2 := bulk_one d
    simp only [Rows.uptoBulkAll, List.length_cons]
    omega
theorem bulk_mem {H : Type} {d : DataW H} : ∀ {l : List (DataW H)}, d ∈ l → Rows.uptoBulk d ≤ Rows.uptoBulkAll l
  | [], h => by simp at h
  | e :: r, h => by
    simp only [Rows.uptoBulkAll]
    rcases List.mem_cons.1 h with rfl | h
    · omega
    · have := bulk_mem h; omega
theorem row_lt {w : World} {v : Value} {l : List Int} (h : RowAt w v l) (h0 : l ≠ []) : ∀ k, v.ownBlock = some k → k < w.heap.size := by
  intro k hk
  rcases h with ⟨_, rfl⟩ | ⟨_, _, _, rfl⟩ | ⟨q, off, cap, rfl, h1, h2⟩
  · exact absurd rfl h0
  · exact absurd rfl h0
  · have := cell_lt (h2 0 (List.length_pos_iff.2 h0))
    simp [Value.ownBlock] at hk
    omega
theorem rowb_of_trod {H : Type} {enc : TypeId × Value → H} {W : World} {sp : Nat → Bool} {held : Bool} {n base : Nat} {v : Value} {x : DataW H × List MemPlace} (hf : DataW.trod enc Try.prog W base sp held n 38 [v] = some x) :
    ∃ l : List Int, RowAt W v l ∧ Byts l ∧ l.length ≤ Rows.uptoBulk x.1 := by
  rcases open_ints Try.underlying38 Try.underlying5 Try.cellsOf5 hf with ⟨hcs, _⟩ | ⟨a, len, cap, zs, hcs, _, hl, hm, hz, hx, hcell, hwz⟩
  · simp at hcs
    subst hcs
    exact ⟨[], .inl ⟨rfl, rfl⟩, Byts.nil, by simp⟩
  · simp at hcs
    subst hcs
    have hlz : len ≤ zs.length := by rw [hz]; split <;> omega
    have hbz : Byts zs := fun c hc => wf_u8 (hwz c hc)
    have hb : len ≤ Rows.uptoBulk x.1 := by
      rw [hx]
      simp only [Rows.uptoBulk]
      have h1 := bulk_all (lits (H := H) .u8 (zs.take len))
      have h2 : (lits (H := H) .u8 (zs.take len)).length = len := by simp [lits]; omega
      omega
    by_cases h0 : len = 0
    · subst h0
      exact ⟨[], .inr (.inl ⟨a, cap, rfl, rfl⟩), Byts.nil, by simp⟩
    · have hs : a.spot = none := by
        have := hcell 0 (by omega)
        rw [show a.add 0 = a from rfl] at this
        exact World.cell?_spot this
      obtain ⟨b, off, sp⟩ := a
      obtain rfl : sp = none := hs
      refine ⟨zs.take len, .inr (.inr ⟨b, off, cap, by rw [List.length_take]; congr 1; omega, by rw [List.length_take]; omega, fun i hi => ?_⟩), hbz.take len, by rw [List.length_take]; omega⟩
      rw [List.length_take] at hi
      have h1 := hcell i (by omega)
      rw [add_none'] at h1
      rw [h1]
      congr 2
      rw [List.getD_eq_getElem?_getD, List.getD_eq_getElem?_getD, List.getElem?_take, if_pos (by omega)]
set_option maxRecDepth 8000 in
theorem cell_of_trod {H : Type} {enc : TypeId × Value → H} {W : World} {sp : Nat → Bool} {held : Bool} {n base : Nat} {cs : List Value} {x : DataW H × List MemPlace} (hf : DataW.trod enc Try.prog W base sp held n 40 cs = some x) :
    ∃ c : CV, cs = cvL c ∧ RowAt W c.v c.l ∧ Byts c.l ∧ (-9223372036854775808 ≤ c.k ∧ c.k ≤ 9223372036854775807) ∧ c.s.size + c.l.length ≤ Rows.uptoBulk x.1 := by
  obtain ⟨y0, y1, y2, k, hx, hl, h0, h1, h2⟩ := trod_struct3 Try.underlying40 hf
  rw [Try.cellsOf40] at hl
  match cs, hl with
  | [a, b, c], _ =>
    simp only [Try.cellsOf3, Try.cellsOf9, Try.cellsOf38, List.drop_zero, List.take_succ_cons, List.take_zero, List.drop_succ_cons] at h0 h1 h2
    obtain ⟨n0, e0, w0⟩ := DataW.trod_int Try.underlying3 h0
    obtain ⟨s, e1, ex, _⟩ := DataW.trod_string Try.underlying9 h1
    obtain ⟨l, r1, r2, r3⟩ := rowb_of_trod h2
    simp at e0 e1
    refine ⟨⟨n0, s, c, l⟩, by rw [e0, e1]; rfl, r1, r2, wf_i64 w0.2, ?_⟩
    show s.size + l.length ≤ _
    have e2 : y1.1 = .lit (.string s.data.toList) := by rw [ex]
    rw [hx]
    simp only [Rows.uptoBulk, Rows.uptoBulkAll, e2]
    have : s.data.toList.length = s.size := by simp
    omega
set_option maxRecDepth 8000 in
theorem cells_of_trod {H : Type} {enc : TypeId × Value → H} {W : World} {sp : Nat → Bool} {held : Bool} {n base : Nat} {v : Value} {x : DataW H × List MemPlace} (hf : DataW.trod enc Try.prog W base sp held n 23 [v] = some x) :
    ∃ L : List CV, CsV W.heap.size W v L ∧ L.length ≤ Rows.uptoBulk x.1 ∧ ∀ c ∈ L, Byts c.l ∧ (-9223372036854775808 ≤ c.k ∧ c.k ≤ 9223372036854775807) ∧ c.s.size + c.l.length ≤ Rows.uptoBulk x.1 := by
  rcases open_slice Try.underlying23 hf with ⟨hcs, _⟩ | ⟨a, len, cap, m, n, D, Pl, hcs, _, hl, hm, hz, hx, hcell⟩
  · simp at hcs
    subst hcs
    exact ⟨[], .inl ⟨none, 0, rfl, rfl⟩, by simp, fun c hc => by simp at hc⟩
  · simp at hcs
    subst hcs
    have hlz : len ≤ m := by rw [hz]; split <;> omega
    by_cases h0 : len = 0
    · subst h0
      exact ⟨[], .inl ⟨some a, cap, rfl, rfl⟩, by simp, fun c hc => by simp at hc⟩
    · have each : ∀ i, i < len → ∃ c : CV, (∀ j u, (cvL c)[j]? = some u → W.cell? ((a.add (i * 3)).add j) = some u) ∧ RowAt W c.v c.l ∧ Byts c.l ∧ (-9223372036854775808 ≤ c.k ∧ c.k ≤ 9223372036854775807) ∧ c.s.size + c.l.length ≤ Rows.uptoBulk (D i) := by
        intro i hi
        obtain ⟨cs', h1, h2⟩ := hcell i (by omega)
        rw [Try.cellsOf40] at h1
        obtain ⟨_, hlen, hce⟩ := World.cells?_some h1
        obtain ⟨c, e, r1, r2, r3, r4⟩ := cell_of_trod h2
        refine ⟨c, fun j u hu => ?_, r1, r2, r3, r4⟩
        rw [← e] at hu
        have hj := (List.getElem?_eq_some_iff.1 hu).1
        rw [hce j (by omega)]; exact hu
      haveI : Inhabited CV := ⟨⟨0, ByteArray.empty, .nilFunc, []⟩⟩
      obtain ⟨f, hfc⟩ := Go.Deep.choose_lt each
      have hs : a.spot = none := by
        have := (hfc 0 (by omega)).1 0 (.int .i64 (f 0).k) rfl
        rw [Nat.zero_mul, show (a.add 0).add 0 = a from rfl] at this
        exact World.cell?_spot this
      obtain ⟨b, off, sp⟩ := a
      obtain rfl : sp = none := hs
      have hb0 : b < W.heap.size := by
        have := (hfc 0 (by omega)).1 0 (.int .i64 (f 0).k) rfl
        rw [Addr.add_mid, Addr.add_mid] at this
        exact cell_lt this
      have hbk : ∀ i, i < len → Rows.uptoBulk (D i) ≤ Rows.uptoBulk x.1 := fun i hi => by
        rw [hx]
        simp only [Rows.uptoBulk]
        have := bulk_mem (d := D i) (l := (List.range len).map D) (List.mem_map.2 ⟨i, List.mem_range.2 hi, rfl⟩)
        omega
      refine ⟨(List.range len).map f, .inr ⟨b, off, cap, by simp, by simpa using hl, hb0, fun i c hc => ?_, fun c hc => ?_⟩, ?_, fun c hc => ?_⟩
      · have hi : i < len := by have := (List.getElem?_eq_some_iff.1 hc).1; simpa using this
        have e : f i = c := by simpa [hi] using hc
        subst e
        intro j u hu
        have h1 := (hfc i hi).1 j u hu
        rw [Addr.add_mid, Addr.add_mid] at h1
        exact h1
      · obtain ⟨i, hi, rfl⟩ := List.mem_map.1 hc
        have h1 := hfc i (List.mem_range.1 hi)
        exact ⟨h1.2.1, fun h => row_lt h1.2.1 h⟩
      · rw [hx]
        simp only [Rows.uptoBulk]
        have := bulk_all ((List.range len).map D)
        simp only [List.length_map, List.length_range] at this ⊢
        omega
      · obtain ⟨i, hi, rfl⟩ := List.mem_map.1 hc
        have hi := List.mem_range.1 hi
        have h1 := hfc i hi
        have h2 := hbk i hi
        exact ⟨h1.2.2.1, h1.2.2.2.1, by have := h1.2.2.2.2; omega⟩

end Go.Proofs.Ytjklmkeedhgncaa
namespace Go.Proofs.Ytjklmkeedhgncaa
open Go.RowKit
set_option linter.unusedSimpArgs false
set_option linter.unusedVariables false

end Go.Proofs.Ytjklmkeedhgncaa
namespace Go.Proofs.Ytjklmkeedhgncaa
open Go.ChangeShapes Go.WideShapes Go.ChangeAt Go.RowKit Go.Deep
set_option linter.unusedSimpArgs false
set_option linter.unusedVariables false
theorem Try.cellsOf69 : Try.prog.cellsOf 69 = 5 := by kernel_rfl
theorem Try.cellsOf31 : Try.prog.cellsOf 31 = 2 := by kernel_rfl
theorem Try.cellsOf29 : Try.prog.cellsOf 29 = 1 := by kernel_rfl
theorem trod_struct2 {H : Type} {enc : TypeId × Value → H} {P : Program} {w : World} {base : Nat} {spare : Nat → Bool} {held : Bool} {t : TypeId} {f0 f1 : Field} {fuel : Nat} {cs : List Value} {x : DataW H × List MemPlace} (ht : P.underlying t = some (.struct #[f0, f1])) (h : DataW.trod enc P w base spare held fuel t cs = some x) :
    ∃ y0 y1 n, x.1 = .agg [y0.1, y1.1] ∧ cs.length = P.cellsOf t ∧ DataW.trod enc P w base spare held n f0.type ((cs.drop f0.offset).take (P.cellsOf f0.type)) = some y0 ∧
      DataW.trod enc P w base spare held n f1.type ((cs.drop f1.offset).take (P.cellsOf f1.type)) = some y1 := by
  obtain ⟨xs, n, _, rfl, hl, hlen, hf⟩ := DataW.trod_struct ht h
  match xs, hlen with
  | [y0, y1], _ => exact ⟨y0, y1, n, by simp, hl, by simpa using hf 0 f0 rfl, by simpa using hf 1 f1 rfl⟩
theorem trod_struct4 {H : Type} {enc : TypeId × Value → H} {P : Program} {w : World} {base : Nat} {spare : Nat → Bool} {held : Bool} {t : TypeId} {f0 f1 f2 f3 : Field} {fuel : Nat} {cs : List Value} {x : DataW H × List MemPlace} (ht : P.underlying t = some (.struct #[f0, f1, f2, f3])) (h : DataW.trod enc P w base spare held fuel t cs = some x) :
    ∃ y0 y1 y2 y3 n, x.1 = .agg [y0.1, y1.1, y2.1, y3.1] ∧ cs.length = P.cellsOf t ∧ DataW.trod enc P w base spare held n f0.type ((cs.drop f0.offset).take (P.cellsOf f0.type)) = some y0 ∧
      DataW.trod enc P w base spare held n f1.type ((cs.drop f1.offset).take (P.cellsOf f1.type)) = some y1 ∧ DataW.trod enc P w base spare held n f2.type ((cs.drop f2.offset).take (P.cellsOf f2.type)) = some y2 ∧
      DataW.trod enc P w base spare held n f3.type ((cs.drop f3.offset).take (P.cellsOf f3.type)) = some y3 := by
  obtain ⟨xs, n, _, rfl, hl, hlen, hf⟩ := DataW.trod_struct ht h
  match xs, hlen with
  | [y0, y1, y2, y3], _ => exact ⟨y0, y1, y2, y3, n, by simp, hl, by simpa using hf 0 f0 rfl, by simpa using hf 1 f1 rfl, by simpa using hf 2 f2 rfl, by simpa using hf 3 f3 rfl⟩
theorem path_of_trod {H : Type} {enc : TypeId × Value → H} {W : World} {sp : Nat → Bool} {held : Bool} {n base : Nat} {v : Value} {x : DataW H × List MemPlace} (hf : DataW.trod enc Try.prog W base sp held n 67 [v] = some x) :
    ∃ ps : List Hs, HPa W.heap.size W v ps ∧ ps.length ≤ Rows.uptoBulk x.1 := by
  obtain ⟨L, hL, hx⟩ := hrow_of_trod hf
  rcases hL with ⟨a, c, h1, h2, _⟩ | ⟨b, off, cap, h1, h2, h3⟩
  · exact ⟨L, .inl ⟨a, c, h1, h2⟩, by rw [h2]; simp⟩
  · by_cases h0 : L = []
    · subst h0
      exact ⟨[], .inl ⟨_, _, h1, rfl⟩, by simp⟩
    · have hp : 0 < L.length := List.length_pos_iff.mpr h0
      refine ⟨L, .inr ⟨b, off, cap, h1, h2, ?_, h3⟩, ?_⟩
      · have hl : 0 < (flatH L).length := by rw [flatH_len]; omega
        have h4 := h3 0 ((flatH L)[0]) (List.getElem?_eq_getElem hl)
        exact cell_lt h4
      · rcases hx with hx | ⟨D, rest, hx⟩
        · exact absurd hx h0
        · rw [hx]
          simp only [Rows.uptoBulk]
          have := bulk_all ((List.range L.length).map D)
          simp only [List.length_map, List.length_range] at this
          omega
set_option maxRecDepth 8000 in
theorem leaf_of_trod {H : Type} {enc : TypeId × Value → H} {W : World} {sp : Nat → Bool} {held : Bool} {n base : Nat} {cs : List Value} {x : DataW H × List MemPlace} (hf : DataW.trod enc Try.prog W base sp held n 69 cs = some x) :
    ∃ y : LV, cs = (lvA y).toList ∧ LfAt W.heap.size W y ∧ Byts y.c.l ∧ (-9223372036854775808 ≤ y.num ∧ y.num ≤ 9223372036854775807) ∧ (-9223372036854775808 ≤ y.c.k ∧ y.c.k ≤ 9223372036854775807) ∧ y.c.s.size + y.c.l.length ≤ Rows.uptoBulk x.1 ∧ y.ps.length ≤ Rows.uptoBulk x.1 := by
  obtain ⟨y0, y1, y2, k, hx, hl, h0, h1, h2⟩ := trod_struct3 Try.underlying69 hf
  rw [Try.cellsOf69] at hl
  match cs, hl with
  | [a, b, c, d, e], _ =>
    simp only [Try.cellsOf3, Try.cellsOf40, Try.cellsOf67, List.drop_zero, List.take_succ_cons, List.take_zero, List.drop_succ_cons] at h0 h1 h2
    obtain ⟨n0, e0, w0⟩ := DataW.trod_int Try.underlying3 h0
    obtain ⟨z, e1, r1, r2, r3, r4⟩ := cell_of_trod h1
    obtain ⟨ps, p1, p2⟩ := path_of_trod h2
    simp at e0
    simp only [cvL] at e1
    injection e1 with b1 e1
    injection e1 with b2 e1
    injection e1 with b3 e1
    refine ⟨⟨n0, z, e, ps⟩, by rw [e0, b1, b2, b3]; rfl, ⟨r1, fun h => row_lt r1 h, p1⟩, r2, wf_i64 w0.2, r3, ?_, ?_⟩
    · rw [hx]
      simp only [Rows.uptoBulk, Rows.uptoBulkAll]
      show z.s.size + z.l.length ≤ _
      omega
    · rw [hx]
      simp only [Rows.uptoBulk, Rows.uptoBulkAll]
      show ps.length ≤ _
      omega
set_option maxRecDepth 8000 in
theorem leaves_of_trod {H : Type} {enc : TypeId × Value → H} {W : World} {sp : Nat → Bool} {held : Bool} {n base : Nat} {v : Value} {x : DataW H × List MemPlace} (hf : DataW.trod enc Try.prog W base sp held n 29 [v] = some x) :
    ∃ ls : List LV, LsV W.heap.size W v ls ∧ ∀ y ∈ ls, Byts y.c.l ∧ (-9223372036854775808 ≤ y.num ∧ y.num ≤ 9223372036854775807) ∧ (-9223372036854775808 ≤ y.c.k ∧ y.c.k ≤ 9223372036854775807) ∧ y.c.s.size + y.c.l.length ≤ Rows.uptoBulk x.1 ∧ y.ps.length ≤ Rows.uptoBulk x.1 := by
  rcases open_slice Try.underlying29 hf with ⟨hcs, _⟩ | ⟨a, len, cap, m, n, D, Pl, hcs, _, hl, hm, hz, hx, hcell⟩
  · simp at hcs
    subst hcs
    exact ⟨[], .inl ⟨none, 0, rfl, rfl⟩, fun c hc => by simp at hc⟩
  · simp at hcs
    subst hcs
    have hlz : len ≤ m := by rw [hz]; split <;> omega
    by_cases h0 : len = 0
    · subst h0
      exact ⟨[], .inl ⟨some a, cap, rfl, rfl⟩, fun c hc => by simp at hc⟩
    · have each : ∀ i, i < len → ∃ y : LV, (∀ j u, (lvA y).toList[j]? = some u → W.cell? ((a.add (i * 5)).add j) = some u) ∧ LfAt W.heap.size W y ∧ Byts y.c.l ∧ (-9223372036854775808 ≤ y.num ∧ y.num ≤ 9223372036854775807) ∧ (-9223372036854775808 ≤ y.c.k ∧ y.c.k ≤ 9223372036854775807) ∧ y.c.s.size + y.c.l.length ≤ Rows.uptoBulk (D i) ∧ y.ps.length ≤ Rows.uptoBulk (D i) := by
        intro i hi
        obtain ⟨cs', h1, h2⟩ := hcell i (by omega)
        rw [Try.cellsOf69] at h1
        obtain ⟨_, hlen, hce⟩ := World.cells?_some h1
        obtain ⟨y, e, r⟩ := leaf_of_trod h2
        refine ⟨y, fun j u hu => ?_, r⟩
        rw [← e] at hu
        have hj := (List.getElem?_eq_some_iff.1 hu).1
        rw [hce j (by omega)]; exact hu
      haveI : Inhabited LV := ⟨⟨0, ⟨0, ByteArray.empty, .nilFunc, []⟩, .nilFunc, []⟩⟩
      obtain ⟨f, hfc⟩ := Go.Deep.choose_lt each
      have hs : a.spot = none := by
        have := (hfc 0 (by omega)).1 0 (.int .i64 (f 0).num) rfl
        rw [Nat.zero_mul, show (a.add 0).add 0 = a from rfl] at this
        exact World.cell?_spot this
      obtain ⟨b, off, sp⟩ := a
      obtain rfl : sp = none := hs
      have hb0 : b < W.heap.size := by
        have := (hfc 0 (by omega)).1 0 (.int .i64 (f 0).num) rfl
        rw [Addr.add_mid, Addr.add_mid] at this
        exact cell_lt this
      have hbk : ∀ i, i < len → Rows.uptoBulk (D i) ≤ Rows.uptoBulk x.1 := fun i hi => by
        rw [hx]
        simp only [Rows.uptoBulk]
        have := bulk_mem (d := D i) (l := (List.range len).map D) (List.mem_map.2 ⟨i, List.mem_range.2 hi, rfl⟩)
        omega
      refine ⟨(List.range len).map f, .inr ⟨b, off, cap, by simp, by simpa using hl, hb0, fun i c hc => ?_, fun c hc => ?_⟩, fun c hc => ?_⟩
      · have hi : i < len := by have := (List.getElem?_eq_some_iff.1 hc).1; simpa using this
        have e : f i = c := by simpa [hi] using hc
        subst e
        intro j u hu
        have h1 := (hfc i hi).1 j u hu
        rw [Addr.add_mid, Addr.add_mid] at h1
        exact h1
      · obtain ⟨i, hi, rfl⟩ := List.mem_map.1 hc
        exact (hfc i (List.mem_range.1 hi)).2.1
      · obtain ⟨i, hi, rfl⟩ := List.mem_map.1 hc
        have hi := List.mem_range.1 hi
        obtain ⟨_, _, r2, r3, r4, r5, r6⟩ := hfc i hi
        have := hbk i hi
        exact ⟨r2, r3, r4, by omega, by omega⟩

theorem Try.cellsOf23 : Try.prog.cellsOf 23 = 1 := by kernel_rfl
theorem Try.cellsOf46 : Try.prog.cellsOf 46 = 5 := by kernel_rfl
structure AkV where
  v : Value
  L : List CV
  kind : Int
  key : ByteArray
  n : Int
  u : Value
  ls : List LV
set_option maxRecDepth 8000 in
theorem asked_of_trod {H : Type} {enc : TypeId × Value → H} {W : World} {sp : Nat → Bool} {held : Bool} {n base : Nat} {cs : List Value} {x : DataW H × List MemPlace} (hf : DataW.trod enc Try.prog W base sp held n 46 cs = some x) :
    ∃ G : AkV, cs = [G.v, .int .i64 G.kind, .string G.key, .int .i64 G.n, G.u] ∧ (CsV W.heap.size W G.v G.L ∧ LsV W.heap.size W G.u G.ls) ∧ (-9223372036854775808 ≤ G.n ∧ G.n ≤ 9223372036854775807) ∧ (-9223372036854775808 ≤ G.kind ∧ G.kind ≤ 9223372036854775807) ∧ (G.L.length ≤ Rows.uptoBulk x.1 ∧ ∀ c ∈ G.L, Byts c.l ∧ (-9223372036854775808 ≤ c.k ∧ c.k ≤ 9223372036854775807) ∧ c.s.size + c.l.length ≤ Rows.uptoBulk x.1) ∧ ∀ y ∈ G.ls, Byts y.c.l ∧ (-9223372036854775808 ≤ y.num ∧ y.num ≤ 9223372036854775807) ∧ (-9223372036854775808 ≤ y.c.k ∧ y.c.k ≤ 9223372036854775807) ∧ y.c.s.size + y.c.l.length ≤ Rows.uptoBulk x.1 ∧ y.ps.length ≤ Rows.uptoBulk x.1 := by
  obtain ⟨y0, y1, y2, y3, k, hx, hl, h0, h1, h2, h3⟩ := trod_struct4 Try.underlying46 hf
  rw [Try.cellsOf46] at hl
  match cs, hl with
  | [a0, a1, a2, a3, a4], _ =>
    simp only [Try.cellsOf3, Try.cellsOf23, Try.cellsOf9, Try.cellsOf31, List.drop_zero, List.take_succ_cons, List.take_zero, List.drop_succ_cons] at h0 h1 h2 h3
    obtain ⟨L, p1, p2, p3⟩ := cells_of_trod h0
    obtain ⟨kind, e1, w1⟩ := DataW.trod_int Try.underlying3 h1
    obtain ⟨key, e2, _, _⟩ := DataW.trod_string Try.underlying9 h2
    obtain ⟨z0, z1, k', hx3, _, g0, g1⟩ := trod_struct2 Try.underlying31 h3
    simp only [Try.cellsOf3, Try.cellsOf29, List.drop_zero, List.take_succ_cons, List.take_zero, List.drop_succ_cons] at g0 g1
    obtain ⟨m, e4, w4⟩ := DataW.trod_int Try.underlying3 g0
    obtain ⟨ls, q1, q2⟩ := leaves_of_trod g1
    simp at e1 e2 e4
    subst e1 e2 e4
    have hb0 : Rows.uptoBulk y0.1 ≤ Rows.uptoBulk x.1 := by rw [hx]; simp only [Rows.uptoBulk, Rows.uptoBulkAll]; omega
    have hb3 : Rows.uptoBulk y3.1 ≤ Rows.uptoBulk x.1 := by rw [hx]; simp only [Rows.uptoBulk, Rows.uptoBulkAll]; omega
    have hb4 : Rows.uptoBulk z1.1 ≤ Rows.uptoBulk y3.1 := by rw [hx3]; simp only [Rows.uptoBulk, Rows.uptoBulkAll]; omega
    refine ⟨⟨a0, L, kind, key, m, a4, ls⟩, rfl, ⟨p1, q1⟩, wf_i64 w4.2, wf_i64 w1.2, ⟨by show L.length ≤ _; omega, fun c hc => ?_⟩, fun y hy => ?_⟩
    · obtain ⟨r1, r2, r3⟩ := p3 c hc
      exact ⟨r1, r2, by omega⟩
    · obtain ⟨r2, r3, r4, r5, r6⟩ := q2 y hy
      exact ⟨r2, r3, r4, by omega, by omega⟩

end Go.Proofs.Ytjklmkeedhgncaa
