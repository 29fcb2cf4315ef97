import Derived.Test.YtfheinghkigocabA02
import Derived.Test.YtfheinghkigocabA01
import Derived.Test.YtfheinghkigocabChecked
import Derived.WalkKit
import Derived.Lib.BitFns
import Derived.ProofKit
import Derived.OpenShut
import Derived.ShutString
import Derived.ChangeOld
import Derived.Below
import Derived.SizedLaws
import Derived.Deep.Slices
import Derived.Deep.Strs
namespace Go.Proofs.Ytfheinghkigocab
open Go.RowKit
set_option linter.unusedSimpArgs false
set_option linter.unusedVariables false

theorem Try.in39 (w : World) (vs : Array Value) : (callFunc 14 vs).run Try.prog w = .ok (.enter 14 vs) w := by kernel_rfl
theorem Try.in32 (w : World) (vs : Array Value) : (callFunc 11 vs).run Try.prog w = .ok (.enter 11 vs) w := by kernel_rfl
theorem Try.in31 (w : World) (vs : Array Value) : (callFunc 12 vs).run Try.prog w = .ok (.enter 12 vs) w := by kernel_rfl

/-- The places of a hash. -/
def plc (s : Int) (x : Hs) (n : Int) : Nat → Int := fun i => nums s x i % (8 * n)
def plF (s : Int) (x : Hs) (n : Int) (t : Nat) : Nat → Int := fun i => if i < t then plc s x n i else 0
def plcL (s : Int) (x : Hs) (n : Int) : List Int := (List.range 4).map (plc s x n)
theorem plcL_len (s : Int) (x : Hs) (n : Int) : (plcL s x n).length = 4 := by simp [plcL]
theorem plcL_get (s : Int) (x : Hs) (n : Int) (i : Nat) (hi : i < 4) : (plcL s x n).getD i 0 = plc s x n i := by simp [plcL, List.getD_eq_getElem?_getD, hi]
theorem plc_rng (s : Int) (x : Hs) (n : Int) (hn : 8 ≤ n) (i : Nat) : 0 ≤ plc s x n i ∧ plc s x n i < 8 * n := by
  unfold plc
  exact ⟨Int.emod_nonneg _ (by omega), Int.emod_lt_of_pos _ (by omega)⟩
theorem plF_next (s : Int) (x : Hs) (n : Int) (t : Nat) : intA (upd (plF s x n t) t (plc s x n t)) = intA (plF s x n (t + 1)) := by
  apply intA_congr
  intro i _
  unfold upd plF
  by_cases h : i = t
  · subst h; simp
  · simp only [if_neg h]
    by_cases h2 : i < t
    · rw [if_pos h2, if_pos (by omega)]
    · rw [if_neg h2, if_neg (by omega)]
theorem plF_full (s : Int) (x : Hs) (n : Int) : intA (plF s x n 4) = intA (plc s x n) := intA_congr fun i hi => by simp [plF, hi]

set_option maxRecDepth 8000 in
set_option maxHeartbeats 4000000 in
theorem places_any (s : Int) (x : Hs) (n : Int) (w : World) (hs : 0 ≤ s ∧ s < 18446744073709551616) (hn : 8 ≤ n ∧ n ≤ 8192) :
    Calls Try.prog 11 #[.int .u64 s, .agg (bytesA 32 x.f), .int .i64 n] w fun e w' => e = .returned (.agg (intA (plc s x n))) ∧ Below w.heap.size w w' := by
  obtain ⟨ch, Hch⟩ : ∃ ch, Keep (ch = bytesA 32 x.f) := ⟨_, ⟨rfl⟩⟩
  have HIch : Keep ((Try.prog.info? 25).map (·.size) = some ch.size) := ⟨by rw [Hch.out]; exact Try.size25B _⟩
  have HOch : Keep (ch.all (·.oneCell') = true) := ⟨by rw [Hch.out]; exact bytesA_one _ _⟩
  obtain ⟨cn, Hcn⟩ : ∃ cn, Keep (cn = u64A (nums s x)) := ⟨_, ⟨rfl⟩⟩
  have HIcn : Keep ((Try.prog.info? 44).map (·.size) = some cn.size) := ⟨by rw [Hcn.out]; exact Try.size44U _⟩
  have HOcn : Keep (cn.all (·.oneCell') = true) := ⟨by rw [Hcn.out]; exact u64A_one _⟩
  have HZcn : Keep ((u64A fun _ => 0).size = cn.size) := ⟨by rw [Hcn.out]; exact (by rw [u64A_size, u64A_size])⟩
  have HC : Keep (∀ w, Calls Try.prog 14 #[.int .u64 s, .agg ch] w fun e w' => e = .returned (.agg cn) ∧ Below w.heap.size w w') := ⟨fun w => by rw [Hch.out, Hcn.out]; exact numbers_any s x w hs⟩
  rw [← Hch.out]
  have Hs := Keep.mk hs
  clear hs
  go_enter Try.func11, Try.ntmps11
  go_wp2_with (first | (refine wpList_boxA rfl 25 (.tmp 1) rfl ch rfl ?_; refine Hid.out ?_))
  refine hid_in ?_
  have H4 := Keep.mk (Blk.new w 25 ch)
  have HB := Keep.mk (below_new w (.cells ch 25))
  obtain ⟨g4, hg4⟩ : ∃ g, Keep (g = w.heap.size) := ⟨_, ⟨rfl⟩⟩
  rw [← hg4.out] at H4 ⊢
  generalize w.alloc (.cells ch 25) = wa at *
  go_wp2_with (first | (refine wpList_new rfl 40 rfl _ Try.new40 ?_; refine Hid.out ?_))
  refine hid_in ?_
  have H6 := Keep.mk (Blk.new wa 40 (intA fun _ => 0))
  have HBb := Keep.mk (HB.out.alloc HB.out.size (.cells (intA fun _ => 0) 40))
  have H4b := Keep.mk (H4.out.alloc (.cells (intA fun _ => 0) 40))
  obtain ⟨g6, hg6⟩ : ∃ g, Keep (g = wa.heap.size) := ⟨_, ⟨rfl⟩⟩
  have hge6 : w.heap.size ≤ g6 := by rw [hg6.out]; exact HB.out.size
  rw [← hg6.out] at H6 ⊢
  generalize wa.alloc (.cells (intA fun _ => 0) 40) = wb at *
  clear H4 HB
  go_wp2_with (first | (refine wpList_new rfl 40 rfl _ Try.new40 ?_; refine Hid.out ?_))
  refine hid_in ?_
  have H7 := Keep.mk (Blk.new wb 40 (intA fun _ => 0))
  have HBc := Keep.mk (HBb.out.alloc HBb.out.size (.cells (intA fun _ => 0) 40))
  have H4c := Keep.mk (H4b.out.alloc (.cells (intA fun _ => 0) 40))
  have H6c := Keep.mk (H6.out.alloc (.cells (intA fun _ => 0) 40))
  obtain ⟨g7, hg7⟩ : ∃ g, Keep (g = wb.heap.size) := ⟨_, ⟨rfl⟩⟩
  have hge7 : w.heap.size ≤ g7 := by rw [hg7.out]; exact HBb.out.size
  have hn67 : g6 ≠ g7 := by have := H6.out.lt; have := hg7.out; omega
  rw [← hg7.out] at H7 ⊢
  generalize wb.alloc (.cells (intA fun _ => 0) 40) = wc at *
  clear H4b HBb H6
  go_wp2_with (first | (refine wpList_load_row rfl 25 (.tmp 4) rfl g4 rfl 25 ch (0, 0) (.array 32 5) H4c.out Try.underlying25 rfl HIch.out ?_))
  refine (HC.out wc).mono ?_
  rintro e wd ⟨rfl, hbd⟩
  have H7d := Keep.mk (H7.out.below hbd H7.out.lt)
  have H6d := Keep.mk (H6c.out.below hbd H6c.out.lt)
  have HBd := Keep.mk (HBc.out.trans (hbd.mono HBc.out.size))
  clear hbd H7 H6c HBc H4c HC
  go_wp2_with (first | (refine wpList_new rfl 44 rfl _ Try.new44 ?_; refine Hid.out ?_))
  refine hid_in ?_
  have H8 := Keep.mk (Blk.new wd 44 (u64A fun _ => 0))
  have HBe := Keep.mk (HBd.out.alloc HBd.out.size (.cells (u64A fun _ => 0) 44))
  have H7e := Keep.mk (H7d.out.alloc (.cells (u64A fun _ => 0) 44))
  have H6e := Keep.mk (H6d.out.alloc (.cells (u64A fun _ => 0) 44))
  obtain ⟨g8, hg8⟩ : ∃ g, Keep (g = wd.heap.size) := ⟨_, ⟨rfl⟩⟩
  have hge8 : w.heap.size ≤ g8 := by rw [hg8.out]; exact HBd.out.size
  have hn78 : g7 ≠ g8 := by have := H7d.out.lt; have := hg8.out; omega
  have hn68 : g6 ≠ g8 := by have := H6d.out.lt; have := hg8.out; omega
  rw [← hg8.out] at H8 ⊢
  generalize wd.alloc (.cells (u64A fun _ => 0) 44) = we at *
  clear H7d HBd H6d
  go_wp2_with (first | (refine wpList_store_row rfl 44 (.tmp 8) (.tmp 12) rfl g8 cn rfl rfl 44 (u64A fun _ => 0) H8.out HIcn.out HZcn.out HOcn.out ?_; refine Hid.out ?_))
  refine hid_in ?_
  have H8f := Keep.mk (H8.out.setRow cn)
  have H7f := Keep.mk (H7e.out.setRow_ne (b' := g8) hn78 cn)
  have H6f := Keep.mk (H6e.out.setRow_ne (b' := g8) hn68 cn)
  have HBf := Keep.mk (below_setRow HBe.out hge8 cn)
  generalize we.setRow g8 cn = wf at *
  clear H8 H7e H6e HBe
  have HM : Keep (∀ i, i < 4 → cn[i]? = some (.int .u64 (nums s x i))) := ⟨fun i hi => by rw [Hcn.out]; exact u64A_get _ _ hi⟩
  go_wp2_with fail
  go_loopw [13] (fun i wr => ∃ t : Nat, t ≤ 4 ∧ i = .int .i64 t ∧ Blk wr g7 40 (intA (plF s x n t)) ∧ Blk wr g8 44 cn ∧ Blk wr g6 40 (intA fun _ => 0) ∧ Below w.heap.size w wr) (fun i _ => 4 - (intOf i).toNat)
  case atStart => exact ⟨0, by omega, rfl, (show plF s x n 0 = fun _ => 0 from funext fun i => by simp [plF]) ▸ H7f.out, H8f.out, H6f.out, HBf.out⟩
  case round =>
    clear H7f H8f H6f HBf
    obtain ⟨t, ht, rfl, h7, h8, h6, hB⟩ := hrel
    by_cases hlt : t < 4
    · have hlt' : (t : Int) < 4 := by omega
      have c8 : wr.cell? ⟨g8, t, none⟩ = some (.int .u64 (nums s x t)) := by rw [h8.cell, HM.out t hlt]
      have c7 : wr.cell? ⟨g7, t, none⟩ = some (.int .i64 (plF s x n t t)) := by rw [h7.cell, intA_get _ _ hlt]
      have ff := h7.frozen t
      have hyr := nums_rng s x t
      have hpr := plc_rng s x n hn.1 t
      have H7n := Keep.mk (h7.set t (.int .i64 (plc s x n t)))
      rw [intA_set, plF_next] at H7n
      have H8n := Keep.mk (h8.set_ne (b' := g7) (j := t) hn78.symm (.int .i64 (plc s x n t)))
      have H6n := Keep.mk (h6.set_ne (b' := g7) (j := t) hn67 (.int .i64 (plc s x n t)))
      have HBn := Keep.mk (hB.setCell hge7 (p := ⟨g7, t, none⟩) (.int .i64 (plc s x n t)))
      have hw1 : IntKind.i64.wrap (8 * n) = 8 * n := by rw [IntKind.wrap_i64]; omega
      have hw2 : IntKind.u64.wrap (8 * n) = 8 * n := by rw [IntKind.wrap_u64]; omega
      have hnz : 8 * n ≠ 0 := by omega
      have hrem : (nums s x t).tmod (8 * n) = plc s x n t := Int.tmod_eq_emod_of_nonneg hyr.1
      have hw3 : IntKind.i64.wrap (plc s x n t) = plc s x n t := by rw [IntKind.wrap_i64]; omega
      generalize plc s x n t = p at *
      generalize nums s x t = y at *
      generalize plF s x n t t = z at *
      clear h7 h8 h6 hB hyr
      go_wp2
      go_roundw
      case rel => exact ⟨t + 1, by omega, by go_num, H7n.out, H8n.out, H6n.out, HBn.out⟩
      case measure => simp only [intOf]; omega
    · obtain rfl : t = 4 := by omega
      rw [show ((4 : Nat) : Int) = 4 from rfl]
      rw [plF_full] at h7
      have HB := Keep.mk hB
      have H6 := Keep.mk h6
      clear hB h6 h8 HM
      obtain ⟨cp, Hcp⟩ : ∃ cp, Keep (cp = intA (plc s x n)) := ⟨_, ⟨rfl⟩⟩
      have HIcp : Keep ((Try.prog.info? 40).map (·.size) = some cp.size) := ⟨by rw [Hcp.out]; exact Try.size40I _⟩
      have HOcp : Keep (cp.all (·.oneCell') = true) := ⟨by rw [Hcp.out]; exact intA_one _⟩
      have HZcp : Keep ((intA fun _ => 0).size = cp.size) := ⟨by rw [Hcp.out]; exact (by rw [intA_size, intA_size])⟩
      rw [← Hcp.out] at h7
      go_wp2_with (first | (refine wpList_load_row rfl 40 (.tmp 7) rfl g7 rfl 40 cp (0, 0) (.array 4 3) h7 Try.underlying40 rfl HIcp.out ?_) | (refine wpList_store_row rfl 40 (.tmp 6) (.tmp 27) rfl g6 cp rfl rfl 40 (intA fun _ => 0) H6.out HIcp.out HZcp.out HOcp.out ?_))
      exact bodyPost_ret (v := .agg cp) (results_cell_row Try.results11 _ _ g6 40 _ (0, 0) _ rfl (H6.out.setRow cp) Try.underlying40 rfl HIcp.out) rfl ⟨by rw [Hcp.out], below_setRow HB.out hge6 cp⟩

/-- The places, if there are any. -/
def plL (s : Int) (x : Hs) (n : Int) : List Int := if isP n = true then plcL s x n else []
theorem plL_len (s : Int) (x : Hs) (n : Int) : (plL s x n).length ≤ 4 := by unfold plL; split <;> simp [plcL_len]
def NewJ (w : World) (v : Value) (l : List Int) (w' : World) : Prop := OwnJ w' v l ∧ (∀ k, v.ownBlock = some k → w.heap.size ≤ k) ∧ Below w.heap.size w w'
theorem ownJ_arr {w : World} {g : Nat} {s : Int} {x : Hs} {n : Int} (h : Blk w g 40 (intA (plc s x n))) : OwnJ w (.slice (some ⟨g, 0, none⟩) 4 4) (plcL s x n) := by
  refine .inr ⟨g, 4, _, 40, by rw [plcL_len], h, .inr ⟨rfl, plcL_len _ _ _⟩, by rw [plcL_len]; omega, by unfold maxLen; omega, intA_size _, ?_⟩
  rw [plcL_len, List.take_of_length_le (by rw [Array.length_toList, intA_size]; omega)]
  apply List.ext_getElem?
  intro i
  rw [Array.getElem?_toList]
  by_cases hi : i < 4
  · rw [intA_get _ _ hi, iv_get _ _ (by rw [plcL_len]; exact hi), plcL_get _ _ _ _ hi]
  · rw [Array.getElem?_eq_none (by rw [intA_size]; omega), List.getElem?_eq_none (by rw [iv_len, plcL_len]; omega)]

end Go.Proofs.Ytfheinghkigocab
namespace Go.Proofs.Ytfheinghkigocab
open Go.RowKit

/-- New bytes: the call has made them. -/
def FreshB (w : World) (v : Value) (l : List Int) (w' : World) : Prop := Own w' v l ∧ (∃ k, v.ownBlock = some k ∧ w.heap.size ≤ k) ∧ Below w.heap.size w w'
theorem FreshB.app {w wr w' : World} {v v' : Value} {l m : List Int} (h : FreshB w v l wr) (hp : AppPost wr v m v' w') : FreshB w v' m w' := by
  obtain ⟨h1, h2⟩ := grow_free h.2.1 h.2.2.size hp
  exact ⟨hp.1, h1, h.2.2.trans h2⟩
theorem FreshB.later {w wr w' : World} {v : Value} {l : List Int} (h : FreshB w v l wr) (hb : Below wr.heap.size wr w') : FreshB w v l w' :=
  ⟨h.1.grown (Grown.below (S := fun _ => False) hb) fun _ _ h => h, h.2.1, h.2.2.trans (hb.mono h.2.2.size)⟩
theorem FreshB.from {w w1 wr : World} {v : Value} {l : List Int} (h : FreshB w1 v l wr) (hb : Below w.heap.size w w1) : FreshB w v l wr := by
  obtain ⟨k, h1, h2⟩ := h.2.1
  exact ⟨h.1, ⟨k, h1, Nat.le_trans hb.size h2⟩, hb.trans (h.2.2.mono hb.size)⟩
theorem FreshB.empty (w : World) : FreshB w (.slice (some ⟨w.heap.size, 0, none⟩) 0 0) [] (w.alloc (.cells #[] 5)) :=
  ⟨own_empty _ _ (Blk.new _ _ _), ⟨_, rfl, Nat.le_refl _⟩, below_new _ _⟩

end Go.Proofs.Ytfheinghkigocab
namespace Go.Proofs.Ytfheinghkigocab
open Go.RowKit
/-- The same number, from its highest byte on. -/
def hsum (c : Nat → Int) (i : Nat) : Nat → Int
  | 0 => 0
  | m + 1 => 256 * hsum c i m + c (8 * i + (7 - m))
theorem hsum_rng (c : Nat → Int) (hc : ∀ i, 0 ≤ c i ∧ c i < 256) (i : Nat) : ∀ m, 0 ≤ hsum c i m ∧ hsum c i m < 2 ^ (8 * m)
  | 0 => by simp [hsum]
  | m + 1 => by
    have h := hsum_rng c hc i m
    have hb := hc (8 * i + (7 - m))
    have hp : (2 : Int) ^ (8 * (m + 1)) = 256 * 2 ^ (8 * m) := by rw [show 8 * (m + 1) = 8 + 8 * m by omega, Int.pow_add]; rfl
    rw [hsum, hp]
    generalize (2 : Int) ^ (8 * m) = p at *
    omega
theorem hsum_lsum (c : Nat → Int) (i : Nat) : hsum c i 8 = lsum c i 8 := by
  simp only [hsum, lsum]
  simp
  omega
theorem FreshB.ne {w wr : World} {v : Value} {l : List Int} (h : FreshB w v l wr) {g : Nat} {T : TypeId} {cs : Array Value} (hg : Blk wr g T cs) (hT : T ≠ 5) : ¬ (v.ownBlock = some g) := fun e => h.1.ne hg hT e
theorem NewJ.app {w wr w' : World} {v v' : Value} {l m : List Int} (h : NewJ w v l wr) (hp : AppPostJ wr v m v' w') : NewJ w v' m w' := by
  rcases hp.2 with ⟨h1, h2, _⟩ | ⟨h1, h2⟩
  · exact ⟨hp.1, fun k hk => h.2.1 k (h1 ▸ hk), h.2.2.trans (h2.to_below (fun k hk e => by have := h.2.1 k e; omega) h.2.2.size)⟩
  · exact ⟨hp.1, fun k hk => by rw [h1] at hk; injection hk with hk; rw [← hk]; exact h.2.2.size, h.2.2.trans (h2.mono h.2.2.size)⟩
theorem NewJ.later {w wr w' : World} {v : Value} {l : List Int} (h : NewJ w v l wr) (hb : Below wr.heap.size wr w') : NewJ w v l w' :=
  ⟨h.1.below hb, h.2.1, h.2.2.trans (hb.mono h.2.2.size)⟩

end Go.Proofs.Ytfheinghkigocab
namespace Go.Proofs.Ytfheinghkigocab
open Go.RowKit
set_option linter.unusedSimpArgs false
set_option linter.unusedVariables false

/-- How many bits of a byte are 1. -/
def pop (c : Int) : Int := c / 1 % 2 + c / 2 % 2 + c / 4 % 2 + c / 8 % 2 + c / 16 % 2 + c / 32 % 2 + c / 64 % 2 + c / 128 % 2
theorem pop_ones : ∀ n : Fin 256, (Lib.onesCount n.val : Int) = pop (n.val : Int) := by decide +kernel
theorem pop_rng (c : Int) : 0 ≤ pop c ∧ pop c ≤ 8 := by unfold pop; omega

set_option maxRecDepth 100000 in
theorem ones_any (x : Int) (w : World) (h0 : 0 ≤ x) (h1 : x ≤ 255) :
    Calls Try.prog 13 #[.int .u8 x] w fun e w' => e = .returned (.int .i64 (pop x)) ∧ w' = w := by
  have hp := pop_ones ⟨x.toNat, by omega⟩
  simp only [Int.toNat_of_nonneg h0] at hp
  rw [← hp, ← Lib.pop8_int x h0 h1]
  clear hp
  go_enter Try.func13, Try.ntmps13
  go_wp2
  go_ret
  refine ⟨?_, rfl⟩
  rw [show wrap64 (Lib.pop8 x) = (Lib.pop8 x + 9223372036854775808) % 18446744073709551616 - 9223372036854775808 by unfold wrap64; omega]
  rfl

end Go.Proofs.Ytfheinghkigocab
namespace Go.Proofs.Ytfheinghkigocab
open Go.RowKit
set_option linter.unusedSimpArgs false
set_option linter.unusedVariables false

theorem RowAt.at {w : World} {v : Value} {l : List Int} (h : RowAt w v l) (h0 : 0 < l.length) : ∃ b o c, v = .slice (some ⟨b, o, none⟩) l.length c ∧ l.length ≤ c ∧ ∀ i, i < l.length → w.cell? ⟨b, o + i, none⟩ = some (.int .u8 (l.getD i 0)) := by
  rcases h with ⟨_, h2⟩ | ⟨_, _, _, h2⟩ | ⟨b, o, c, h1, h2, h3⟩
  · rw [h2] at h0; simp at h0
  · rw [h2] at h0; simp at h0
  · exact ⟨b, o, c, h1, h2, h3⟩
/-- Is a bit 1? -/
def btB (l : List Int) (i : Nat) : Bool := l.getD (i / 8) 0 / 2 ^ (i % 8) % 2 == 1

theorem RowAt.at' {w : World} {a : Option Addr} {n c : Nat} {l : List Int} (h : RowAt w (.slice a n c) l) {i : Nat} (hi : i < l.length) : ∃ b o, a = some ⟨b, o, none⟩ ∧ w.cell? ⟨b, o + i, none⟩ = some (.int .u8 (l.getD i 0)) := by
  obtain ⟨b, o, c', e, _, h2⟩ := h.at (by omega)
  injection e with e1 e2 e3
  exact ⟨b, o, e1, h2 i hi⟩
/-- The bits of the first bytes. -/
def popU (l : List Int) : Nat → Int
  | 0 => 0
  | k + 1 => popU l k + pop (l.getD k 0)
theorem popU_rng (l : List Int) : ∀ k, 0 ≤ popU l k ∧ popU l k ≤ 8 * k
  | 0 => by simp [popU]
  | k + 1 => by have := popU_rng l k; have := pop_rng (l.getD k 0); simp only [popU]; omega
def cntB (l : List Int) : Nat → Int
  | 0 => 0
  | i + 1 => cntB l i + if btB l i = true then 1 else 0
theorem cntB_rng (l : List Int) : ∀ k, 0 ≤ cntB l k ∧ cntB l k ≤ k
  | 0 => by simp [cntB]
  | k + 1 => by have := cntB_rng l k; simp only [cntB]; split <;> omega
theorem cntB_pop (l : List Int) : ∀ k, cntB l (8 * k) = popU l k
  | 0 => rfl
  | k + 1 => by
    have hb : ∀ j, j < 8 → (if btB l (8 * k + j) = true then (1 : Int) else 0) = l.getD k 0 / 2 ^ j % 2 := by
      intro j hj
      unfold btB
      rw [show (8 * k + j) / 8 = k by omega, show (8 * k + j) % 8 = j by omega]
      generalize l.getD k 0 / 2 ^ j = z
      rcases Int.emod_two_eq z with h | h <;> simp [h]
    rw [show 8 * (k + 1) = 8 * k + 0 + 1 + 1 + 1 + 1 + 1 + 1 + 1 + 1 by omega]
    simp only [cntB, Nat.add_assoc, Nat.reduceAdd]
    have hb0 := hb 0 (by omega)
    rw [Nat.add_zero] at hb0
    rw [hb0, hb 1 (by omega), hb 2 (by omega), hb 3 (by omega), hb 4 (by omega), hb 5 (by omega), hb 6 (by omega), hb 7 (by omega), cntB_pop l k]
    simp only [popU, pop, Int.pow_zero, show (2 : Int) ^ 1 = 2 from rfl, show (2 : Int) ^ 2 = 4 from rfl, show (2 : Int) ^ 3 = 8 from rfl, show (2 : Int) ^ 4 = 16 from rfl, show (2 : Int) ^ 5 = 32 from rfl, show (2 : Int) ^ 6 = 64 from rfl, show (2 : Int) ^ 7 = 128 from rfl]
    omega

set_option maxRecDepth 8000 in
set_option maxHeartbeats 1000000 in
theorem count_any (v : Value) (l : List Int) (w : World) (hr : RowAt w v l) (hb : Byts l) (hl : l.length ≤ 140737488355328) :
    Calls Try.prog 7 #[v] w fun e w' => e = .returned (.int .i64 (popU l l.length)) ∧ w' = w := by
  obtain ⟨a, c, rfl⟩ := row_form hr
  have HR := Keep.mk hr
  clear hr
  go_enter Try.func7, Try.ntmps7
  go_wp2
  go_loop [3, 8] (fun n i => ∃ t : Nat, t ≤ l.length ∧ n = .int .i64 (popU l t) ∧ i = .int .i64 t) (fun _ i => l.length - (intOf i).toNat)
  case atStart => exact ⟨0, by omega, rfl, rfl⟩
  case round =>
    obtain ⟨t, ht, rfl, rfl⟩ := hrel
    by_cases hlt : t < l.length
    · have hlt' : (t : Int) < l.length := by omega
      obtain ⟨b, o, rfl, hc⟩ := HR.out.at' hlt
      have hby := hb.getD t
      have h1 := popU_rng l t
      have h2 := pop_rng (l.getD t 0)
      have hnx : popU l (t + 1) = popU l t + pop (l.getD t 0) := rfl
      have hw1 : IntKind.i64.wrap (popU l t + pop (l.getD t 0)) = popU l t + pop (l.getD t 0) := by rw [IntKind.wrap_i64]; omega
      have hw2 : IntKind.i64.wrap ((t : Int) + 1) = t + 1 := by rw [IntKind.wrap_i64]; omega
      generalize l.getD t 0 = z at *
      go_wp2_with (go_at_call 13; refine (ones_any z w (by omega) (by omega)).mono ?_; rintro e w' ⟨rfl, rfl⟩)
      refine ⟨⟨t + 1, by omega, by rw [hnx], by go_num⟩, by simp only [intOf]; omega⟩
    · obtain rfl : t = l.length := by omega
      go_wp2
      go_ret
      exact ⟨rfl, rfl⟩

end Go.Proofs.Ytfheinghkigocab
namespace Go.Proofs.Ytfheinghkigocab
open Go.RowKit
set_option linter.unusedSimpArgs false
set_option linter.unusedVariables false

theorem Try.in10 (w : World) (vs : Array Value) : (callFunc 8 vs).run Try.prog w = .ok (.enter 8 vs) w := by kernel_rfl
theorem Try.in20 (w : World) (vs : Array Value) : (callFunc 6 vs).run Try.prog w = .ok (.enter 6 vs) w := by kernel_rfl
/-! ### Digests. -/
/-- A bit laid. -/
def setB (l : List Int) (p : Nat) : List Int := l.set (p / 8) (bits .or .u8 (l.getD (p / 8) 0) (2 ^ (p % 8)))
theorem setB_len (l : List Int) (p : Nat) : (setB l p).length = l.length := by simp [setB]
def addU (l : List Int) (f : Nat → Int) : Nat → List Int
  | 0 => l
  | k + 1 => setB (addU l f k) (f k).toNat
theorem addU_len (l : List Int) (f : Nat → Int) : ∀ k, (addU l f k).length = l.length
  | 0 => rfl
  | k + 1 => by rw [addU, setB_len, addU_len l f k]
def digU (s : Int) (n : Nat) (L : List Hs) : Nat → List Int
  | 0 => List.replicate n 0
  | t + 1 => addU (digU s n L t) (plc s (L.getD t default) n) 4
theorem digU_len (s : Int) (n : Nat) (L : List Hs) : ∀ t, (digU s n L t).length = n
  | 0 => by simp [digU]
  | t + 1 => by rw [digU, addU_len, digU_len s n L t]
/-- The digest of hashes. -/
def digL (s : Int) (L : List Hs) : List Int := digU s (szN L.length) L L.length
theorem digL_len (s : Int) (L : List Hs) : (digL s L).length = szN L.length := digU_len _ _ _ _
theorem or_u8 (a b : Int) (ha : 0 ≤ a ∧ a < 256) (hb : 0 ≤ b ∧ b < 256) : 0 ≤ bits .or .u8 a b ∧ bits .or .u8 a b < 256 := by
  have h : ∀ a b : Fin 256, 0 ≤ bits .or .u8 (a.val : Int) (b.val : Int) ∧ bits .or .u8 (a.val : Int) (b.val : Int) < 256 := by
    intro a b
    have := bits_nat .u8 8 (by decide) (fun n h0 h1 => by rw [IntKind.wrap_u8]; omega) a.val b.val a.isLt b.isLt
    rw [this.2]
    have h3 := Nat.or_lt_two_pow (x := a.val) (y := b.val) (n := 8) a.isLt b.isLt
    omega
  have := h ⟨a.toNat, by omega⟩ ⟨b.toNat, by omega⟩
  simpa [Int.toNat_of_nonneg ha.1, Int.toNat_of_nonneg hb.1] using this
theorem pow8 (r : Nat) (h : r < 8) : (0 : Int) ≤ 2 ^ r ∧ (2 : Int) ^ r < 256 := by
  have h2 : ∀ r : Fin 8, (0 : Int) ≤ 2 ^ r.val ∧ (2 : Int) ^ r.val < 256 := by decide
  exact h2 ⟨r, h⟩
theorem Byts.set {l : List Int} (h : Byts l) (i : Nat) {c : Int} (hc : 0 ≤ c ∧ c < 256) : Byts (l.set i c) := fun z hz => by
  rcases List.mem_or_eq_of_mem_set hz with h1 | rfl
  · exact h z h1
  · exact hc
theorem setB_byts {l : List Int} (h : Byts l) (p : Nat) : Byts (setB l p) := h.set _ (or_u8 _ _ (h.getD _) (pow8 _ (by omega)))
theorem addU_byts {l : List Int} (h : Byts l) (f : Nat → Int) : ∀ k, Byts (addU l f k)
  | 0 => h
  | k + 1 => setB_byts (addU_byts h f k) _
theorem digU_byts (s : Int) (n : Nat) (L : List Hs) : ∀ t, Byts (digU s n L t)
  | 0 => fun z hz => by rw [(List.mem_replicate.1 hz).2]; omega
  | t + 1 => addU_byts (digU_byts s n L t) _ 4
theorem digL_byts (s : Int) (L : List Hs) : Byts (digL s L) := digU_byts _ _ _ _
theorem own_zeros {w : World} {g n : Nat} (h : Blk w g 5 (bytesA n fun _ => 0)) (hn : n ≤ 8192) : Own w (.slice (some ⟨g, 0, none⟩) n n) (List.replicate n 0) := by
  refine ⟨by simp [bv_len], .inr ⟨g, n, _, by simp, Nat.zero_le _, h, by simp, by unfold maxLen; omega, by simp [bytesA_size], ?_⟩⟩
  rw [List.length_replicate, Nat.mul_one, List.take_of_length_le (by rw [Array.length_toList, bytesA_size]; omega), hl_bytesA]
  congr 1
  apply List.ext_getElem?
  intro i
  by_cases hi : i < n <;> simp [hl, hi]
theorem index51 (c : Nat → Int) (t : Nat) (ht : t < 4) (w : World) : (Instr.index 40 (.agg (intA c)) (.int .i64 (t : Int))).run Try.prog w = .ok (.int .i64 (c t)) w := by
  match t, ht with
  | 0, _ => exact (show (Instr.index 40 (.agg (intA c)) (.int .i64 0)).run Try.prog w = .ok (.int .i64 (c 0)) w by kernel_rfl)
  | 1, _ => exact (show (Instr.index 40 (.agg (intA c)) (.int .i64 1)).run Try.prog w = .ok (.int .i64 (c 1)) w by kernel_rfl)
  | 2, _ => exact (show (Instr.index 40 (.agg (intA c)) (.int .i64 2)).run Try.prog w = .ok (.int .i64 (c 2)) w by kernel_rfl)
  | 3, _ => exact (show (Instr.index 40 (.agg (intA c)) (.int .i64 3)).run Try.prog w = .ok (.int .i64 (c 3)) w by kernel_rfl)
theorem hash_at {w : World} {a : Option Addr} {n c : Nat} {L : List Hs} (h : HRow w (.slice a n c) L) {t : Nat} (ht : t < L.length) : ∃ b o, a = some ⟨b, o, none⟩ ∧ w.rangeAt b (o + t * 32) (encH (L.getD t default)) := by
  obtain ⟨b, o, h1, _, _, h2⟩ := h.at (by omega)
  refine ⟨b, o, h1, ?_⟩
  have := rangeAt_elem h2 t ht
  rw [show L.getD t default = L[t] by simp [List.getD_eq_getElem?_getD, ht]]
  exact this

set_option maxRecDepth 8000 in
set_option maxHeartbeats 4000000 in
theorem Of_any (s : Int) (L : List Hs) (v : Value) (w : World) (hs : 0 ≤ s ∧ s < 18446744073709551616) (hL : HRow w v L) (hll : L.length ≤ 4398046511104) :
    Calls Try.prog 5 #[.int .u64 s, v] w fun e w' => ∃ v', e = .returned v' ∧ FreshB w v' (digL s L) w' := by
  obtain ⟨a, c, rfl⟩ := hL.form
  have HR := Keep.mk hL
  have Hs := Keep.mk hs
  have HD : Keep (digL s L = digU s (szN L.length) L L.length) := ⟨rfl⟩
  have hn := szN_rng L.length
  have HSZ := Keep.mk (size_any L.length w)
  obtain ⟨n, hnn⟩ : ∃ n, Keep (n = szN L.length) := ⟨_, ⟨rfl⟩⟩
  rw [← hnn.out] at HD hn HSZ
  clear hs hL
  have hmk := run_makeB n n (Nat.le_refl _) (by omega) w
  have HB := Keep.mk (below_new w (.cells (bytesA n fun _ => 0) 5))
  have HO := Keep.mk (own_zeros (Blk.new w 5 (bytesA n fun _ => 0)) (by omega))
  go_enter Try.func5, Try.ntmps5
  go_wp2_with (first | (go_at_call 8; refine HSZ.out.mono ?_; rintro e w' ⟨rfl, rfl⟩))
  clear HSZ hmk
  obtain ⟨gb, hgb⟩ : ∃ g, Keep (g = w'.heap.size) := ⟨_, ⟨rfl⟩⟩
  rw [← hgb.out] at HO ⊢
  have hgeb : w'.heap.size ≤ gb := by rw [hgb.out]; exact Nat.le_refl _
  generalize w'.alloc (.cells (bytesA n fun _ => 0) 5) = wa at *
  go_loopw [16] (fun i wr => ∃ t : Nat, t ≤ L.length ∧ i = .int .i64 t ∧ Own wr (.slice (some ⟨gb, 0, none⟩) n n) (digU s n L t) ∧ Below w'.heap.size w' wr) (fun i _ => L.length - (intOf i).toNat)
  case atStart => exact ⟨0, by omega, rfl, HO.out, HB.out⟩
  case round =>
    clear HO HB
    obtain ⟨t, ht, rfl, hO, hB⟩ := hrel
    by_cases hlt : t < L.length
    · have hlt' : (t : Int) < L.length := by omega
      obtain ⟨b, o, rfl, hrg⟩ := hash_at (HR.out.below hB) hlt
      have HDn : Keep (digU s n L (t + 1) = addU (digU s n L t) (plc s (L.getD t default) n) 4) := ⟨rfl⟩
      have hl0 : Keep ((digU s n L t).length = n) := ⟨digU_len _ _ _ _⟩
      obtain ⟨x, hx⟩ : ∃ x, Keep (x = L.getD t default) := ⟨_, ⟨rfl⟩⟩
      rw [← hx.out] at HDn hrg
      obtain ⟨l, hl⟩ : ∃ l, Keep (l = digU s n L t) := ⟨_, ⟨rfl⟩⟩
      rw [← hl.out] at HDn hO hl0
      have HO := Keep.mk hO
      have HB := Keep.mk hB
      clear hO hB
      obtain ⟨ch, Hch⟩ : ∃ ch, Keep (ch = bytesA 32 x.f) := ⟨_, ⟨rfl⟩⟩
      have HIch : Keep ((Try.prog.info? 25).map (·.size) = some ch.size) := ⟨by rw [Hch.out]; exact Try.size25B _⟩
      have HOch : Keep (ch.all (·.oneCell') = true) := ⟨by rw [Hch.out]; exact bytesA_one _ _⟩
      have HZch : Keep ((bytesA 32 fun _ => 0).size = ch.size) := ⟨by rw [Hch.out]; exact bytesA_sizes _ _ _⟩
      have hCA : (encH x).toArray = ch := by rw [Hch.out]; exact encH_arr x
      have hiL : (Try.prog.info? 25).map (·.size) = some (encH x).length := Try.size25L x
      have hu := Try.underlying25
      obtain ⟨cp, Hcp⟩ : ∃ cp, Keep (cp = intA (plc s x n)) := ⟨_, ⟨rfl⟩⟩
      have HC : Keep (∀ w, Calls Try.prog 11 #[.int .u64 s, .agg ch, .int .i64 (n : Int)] w fun e w' => e = .returned (.agg cp) ∧ Below w.heap.size w w') := ⟨fun w => by rw [Hch.out, Hcp.out]; exact places_any s x n w Hs.out (by omega)⟩
      have HIX : Keep (∀ k : Nat, k < 4 → ∀ w, (Instr.index 40 (.agg cp) (.int .i64 (k : Int))).run Try.prog w = .ok (.int .i64 (plc s x n k)) w) := ⟨fun k hk w => by rw [Hcp.out]; exact index51 _ k hk w⟩
      go_wp2_with (first | (refine wpList_load_midG (by rfl) 25 (.tmp 18) rfl b (o + t * 32) rfl (encH x) _ hrg hu rfl hiL ?_; rw [hCA]) | (refine wpList_new rfl 25 rfl _ Try.new25 ?_; refine Hid.out ?_))
      refine hid_in ?_
      have H7 := Keep.mk (Blk.new wr 25 (bytesA 32 fun _ => 0))
      have HOa := Keep.mk (HO.out.box (.cells (bytesA 32 fun _ => 0) 25))
      have HBa := Keep.mk (HB.out.alloc HB.out.size (.cells (bytesA 32 fun _ => 0) 25))
      obtain ⟨g7, hg7⟩ : ∃ g, Keep (g = wr.heap.size) := ⟨_, ⟨rfl⟩⟩
      have hge7 : w'.heap.size ≤ g7 := by rw [hg7.out]; exact HB.out.size
      have hne7 := HO.out.lt gb rfl
      rw [← hg7.out] at H7 hne7 ⊢
      have hnb7 : gb ≠ g7 := by omega
      generalize wr.alloc (.cells (bytesA 32 fun _ => 0) 25) = w1 at *
      clear HO HB hrg hne7
      go_wp2_with (first | (refine wpList_store_row rfl 25 (.tmp 7) (.tmp 19) rfl g7 ch rfl rfl 25 (bytesA 32 fun _ => 0) H7.out HIch.out HZch.out HOch.out ?_; refine Hid.out ?_))
      refine hid_in ?_
      have H7b := Keep.mk (H7.out.setRow ch)
      have HOb := Keep.mk (HOa.out.grown (Grown.setRow w1 g7 ch (S := fun k => k = g7) fun _ => rfl) fun k hk e => by simp [Value.ownBlock] at hk; omega)
      have HBb := Keep.mk (below_setRow HBa.out hge7 ch)
      generalize w1.setRow g7 ch = w2 at *
      clear H7 HOa HBa
      go_wp2_with (first | (refine wpList_load_row rfl 25 (.tmp 7) rfl g7 rfl 25 ch (0, 0) (.array 32 5) H7b.out Try.underlying25 rfl HIch.out ?_))
      refine (HC.out _).mono ?_
      rintro e w3 ⟨rfl, hb3⟩
      have HOc := Keep.mk (HOb.out.grown (Grown.below (S := fun _ => False) hb3) fun _ _ h => h)
      have HBc := Keep.mk (HBb.out.trans (hb3.mono HBb.out.size))
      clear hb3 H7b HOb HBb HC hCA hiL hu
      go_wp2_with fail
      go_loopw [25] (fun i wr => ∃ k : Nat, k ≤ 4 ∧ i = .int .i64 k ∧ Own wr (.slice (some ⟨gb, 0, none⟩) n n) (addU l (plc s x n) k) ∧ Below w'.heap.size w' wr) (fun i _ => 4 - (intOf i).toNat)
      case atStart => exact ⟨0, by omega, rfl, HOc.out, HBc.out⟩
      case round =>
        clear HOc HBc
        obtain ⟨k, hk, rfl, hO, hB⟩ := hrel
        by_cases hlk : k < 4
        · have hlk' : (k : Int) < 4 := by omega
          have hix := HIX.out k hlk wr
          have hpr := plc_rng s x n (by omega) k
          obtain ⟨p, hp⟩ : ∃ p : Nat, plc s x n k = (p : Int) := ⟨(plc s x n k).toNat, by omega⟩
          obtain ⟨q, hq⟩ : ∃ q, Keep (q = p / 8) := ⟨_, ⟨rfl⟩⟩
          obtain ⟨r, hr⟩ : ∃ r, Keep (r = p % 8) := ⟨_, ⟨rfl⟩⟩
          have hi8 : (p : Int) / 8 = (q : Int) := by rw [hq.out]; omega
          have hm8 : (p : Int) % 8 = (r : Int) := by rw [hr.out]; omega
          have hqn : q < n := by rw [hq.out]; omega
          have hqn' : (q : Int) < n := by omega
          have hr8 : r < 8 := by rw [hr.out]; omega
          have hp8 := pow8 r hr8
          have hqw : IntKind.i64.wrap (q : Int) = q := by rw [IntKind.wrap_i64]; omega
          have hmt : (p : Int).tmod 8 = (r : Int) := by rw [Int.tmod_eq_emod_of_nonneg (by omega)]; exact hm8
          have hsl : IntKind.u8.wrap (2 ^ r) = 2 ^ r := by rw [IntKind.wrap_u8]; omega
          have hlen : (addU l (plc s x n) k).length = n := by rw [addU_len]; exact hl0.out
          have hnx : Keep (addU l (plc s x n) (k + 1) = (addU l (plc s x n) k).set q (bits .or .u8 ((addU l (plc s x n) k).getD q 0) (2 ^ r))) := ⟨by rw [addU, setB, hp, Int.toNat_natCast, ← hq.out, ← hr.out]⟩
          have cb : wr.drew.cell? ⟨gb, q, none⟩ = some (.int .u8 ((addU l (plc s x n) k).getD q 0)) := (hO.cells q (by rw [hlen]; exact hqn)).1
          have ff : wr.drew.frozen? ⟨gb, q, none⟩ = false := (hO.cells q (by rw [hlen]; exact hqn)).2
          have HOn := Keep.mk ((show Own wr.drew _ _ from hO).set q (bits .or .u8 ((addU l (plc s x n) k).getD q 0) (2 ^ r)))
          rw [← hnx.out] at HOn
          have HBn := Keep.mk ((hB.drew).setCell hgeb (p := ⟨gb, q, none⟩) (.int .u8 (bits .or .u8 ((addU l (plc s x n) k).getD q 0) (2 ^ r))))
          rw [hp] at hix
          clear hO hB hp hpr hlen hnx
          generalize (addU l (plc s x n) k).getD q 0 = z at *
          go_wp2_with fail
          refine wp_region_held_drew (S := fun _ => True) (by kernel_rfl) trivial (fun hHeld => ?_)
          generalize wr.drew = wd at *
          refine wpAnyH_take (i := 0) (oi := ⟨some 28, Op.move (Operand.tmp 5), 28, _, _, none⟩) (v := .slice (some ⟨gb, 0, none⟩) n n) rfl (by kernel_rfl) (by kernel_rfl) (by kernel_rfl) (fun _ _ _ h => h) (Or.inl ⟨by rfl, fun w hS => by go_simp⟩) hHeld ?_
          simp only [Act.put, List.setIfInBounds_toArray, List.set_cons_zero, List.set_cons_succ]
          refine wpAnyH_take (i := 1) (oi := ⟨some 29, Op.move (Operand.tmp 9), 3, _, _, none⟩) (v := .int .i64 (p : Int)) rfl (by kernel_rfl) (by kernel_rfl) (by kernel_rfl) (fun _ _ _ h => h) (Or.inl ⟨by rfl, fun w hS => by go_simp⟩) hHeld ?_
          simp only [Act.put, List.setIfInBounds_toArray, List.set_cons_zero, List.set_cons_succ]
          refine wpAnyH_take (i := 2) (oi := ⟨some 30, Op.binOp BinOp.quo 3 (Operand.tmp 29) (Operand.const (Value.int IntKind.i64 8)) 3, 3, _, _, none⟩) (v := .int .i64 (q : Int)) rfl (by kernel_rfl) (by kernel_rfl) (by kernel_rfl) (fun _ _ _ h => h) (Or.inl ⟨by rfl, fun w hS => by go_simp⟩) hHeld ?_
          simp only [Act.put, List.setIfInBounds_toArray, List.set_cons_zero, List.set_cons_succ]
          refine wpAnyH_take (i := 3) (oi := ⟨some 31, Op.indexAddr 28 (Operand.tmp 28) (Operand.tmp 30), 0, _, _, none⟩) (v := .pointer (some ⟨gb, q, none⟩)) rfl (by kernel_rfl) (by kernel_rfl) (by kernel_rfl) (fun _ _ _ h => h) (Or.inl ⟨by rfl, fun w hS => by go_simp⟩) hHeld ?_
          simp only [Act.put, List.setIfInBounds_toArray, List.set_cons_zero, List.set_cons_succ]
          refine wpAnyH_take (i := 5) (oi := ⟨some 33, Op.move (Operand.tmp 9), 3, _, _, none⟩) (v := .int .i64 (p : Int)) rfl (by kernel_rfl) (by kernel_rfl) (by kernel_rfl) (fun _ _ _ h => h) (Or.inl ⟨by rfl, fun w hS => by go_simp⟩) hHeld ?_
          simp only [Act.put, List.setIfInBounds_toArray, List.set_cons_zero, List.set_cons_succ]
          refine wpAnyH_take (i := 6) (oi := ⟨some 34, Op.binOp BinOp.rem 3 (Operand.tmp 33) (Operand.const (Value.int IntKind.i64 8)) 3, 3, _, _, none⟩) (v := .int .i64 (r : Int)) rfl (by kernel_rfl) (by kernel_rfl) (by kernel_rfl) (fun _ _ _ h => h) (Or.inl ⟨by rfl, fun w hS => by go_simp⟩) hHeld ?_
          simp only [Act.put, List.setIfInBounds_toArray, List.set_cons_zero, List.set_cons_succ]
          refine wpAnyH_take (i := 7) (oi := ⟨some 35, Op.binOp BinOp.shl 5 (Operand.const (Value.int IntKind.u8 1)) (Operand.tmp 34) 3, 5, _, _, none⟩) (v := .int .u8 (2 ^ r)) rfl (by kernel_rfl) (by kernel_rfl) (by kernel_rfl) (fun _ _ _ h => h) (Or.inl ⟨by rfl, fun w hS => by go_simp⟩) hHeld ?_
          simp only [Act.put, List.setIfInBounds_toArray, List.set_cons_zero, List.set_cons_succ]
          refine wpAnyH_ready (rs := [4]) (by kernel_rfl) (by simp) ?_
          refine AllReadyH.cons (o := ⟨some 32, Op.load 5 (Operand.tmp 31), 5, _, _, none⟩) rfl (fun K hK => ?_) (AllReadyH.nil)
          all_goals rw [if_pos (by rfl)]
          refine wp_val (.int .u8 z) (by go_simp) ?_
          refine hK.out _ _ trivial fun hHeld => ?_
          clear hK
          simp only [Act.put, List.setIfInBounds_toArray, List.set_cons_zero, List.set_cons_succ]
          refine wpAnyH_take (i := 8) (oi := ⟨some 36, Op.binOp BinOp.or 5 (Operand.tmp 32) (Operand.tmp 35) 5, 5, _, _, none⟩) (v := .int .u8 (bits .or .u8 z (2 ^ r))) rfl (by kernel_rfl) (by kernel_rfl) (by kernel_rfl) (fun _ _ _ h => h) (Or.inl ⟨by rfl, fun w hS => by go_simp⟩) hHeld ?_
          simp only [Act.put, List.setIfInBounds_toArray, List.set_cons_zero, List.set_cons_succ]
          refine wpAnyH_take (i := 9) (oi := ⟨some 37, Op.indexAddr 28 (Operand.tmp 28) (Operand.tmp 30), 0, _, _, none⟩) (v := .pointer (some ⟨gb, q, none⟩)) rfl (by kernel_rfl) (by kernel_rfl) (by kernel_rfl) (fun _ _ _ h => h) (Or.inl ⟨by rfl, fun w hS => by go_simp⟩) hHeld ?_
          simp only [Act.put, List.setIfInBounds_toArray, List.set_cons_zero, List.set_cons_succ]
          refine wpAnyH_ready (rs := [10]) (by kernel_rfl) (by simp) ?_
          refine AllReadyH.cons (o := ⟨none, Op.store 5 (Operand.tmp 37) (Operand.tmp 36), 0, _, _, none⟩) rfl (fun K hK => ?_) (AllReadyH.nil)
          all_goals rw [if_pos (by rfl)]
          go_simp
          refine hK.out _ _ trivial fun _ => ?_
          clear hK
          refine wpAnyH_done (by kernel_rfl) ?_ _
          generalize wd.setCell ⟨gb, q, none⟩ (.int .u8 (bits .or .u8 z (2 ^ r))) = we at *
          clear cb ff hHeld
          go_wp2
          go_roundw
          case rel => exact ⟨k + 1, by omega, by go_num, HOn.out, HBn.out⟩
          case measure => simp only [intOf]; omega
        · obtain rfl : k = 4 := by omega
          rw [show ((4 : Nat) : Int) = 4 from rfl]
          have HO := Keep.mk (HDn.out ▸ hO)
          have HB := Keep.mk hB
          clear hO hB HDn
          go_wp2
          go_roundw
          case rel => exact ⟨t + 1, by omega, by go_num, HO.out, HB.out⟩
          case measure => simp only [intOf]; omega
    · obtain rfl : t = L.length := by omega
      have HO := Keep.mk (HD.out ▸ hO)
      have HB := Keep.mk hB
      clear hO hB
      go_wp2
      go_ret
      exact ⟨_, rfl, HO.out, ⟨gb, rfl, hgeb⟩, HB.out⟩

end Go.Proofs.Ytfheinghkigocab
namespace Go.Proofs.Ytfheinghkigocab
open Go.RowKit
end Go.Proofs.Ytfheinghkigocab
namespace Go.Proofs.Ytfheinghkigocab
open Go.RowKit
set_option linter.unusedSimpArgs false
set_option linter.unusedVariables false

theorem Try.in16 (w : World) (vs : Array Value) : (callFunc 5 vs).run Try.prog w = .ok (.enter 5 vs) w := by kernel_rfl

theorem right_any (v : Value) (l : List Int) (w : World) (h : RowAt w v l) : Calls Try.prog 6 #[v] w fun e w' => e = .returned (.bool (isP l.length)) ∧ w' = w := by
  obtain ⟨a, c, rfl⟩ := row_form h
  have HC := Keep.mk (isSize_any l.length w)
  clear h
  go_enter Try.func6, Try.ntmps6
  go_wp2_with (go_at_call 12; refine HC.out.mono ?_; rintro e w' ⟨rfl, rfl⟩)
  go_ret
  exact ⟨rfl, rfl⟩
theorem and1 (y : Int) (h : 0 ≤ y ∧ y < 256) : bits .and .u8 y 1 = y % 2 := by
  have h2 : ∀ y : Fin 256, bits .and .u8 (y.val : Int) 1 = (y.val : Int) % 2 := by decide +kernel
  have := h2 ⟨y.toNat, by omega⟩
  simpa [Int.toNat_of_nonneg h.1] using this
/-- Are all bits of a hash 1? -/
def hasB (s : Int) (l : List Int) (x : Hs) : Bool := (List.range 4).all fun i => btB l (plc s x l.length i).toNat
theorem hasB_no {s : Int} {l : List Int} {x : Hs} {i : Nat} (hi : i < 4) (h : btB l (plc s x l.length i).toNat = false) : hasB s l x = false := by
  rw [hasB, List.all_eq_false]
  exact ⟨i, by simpa using hi, by simp [h]⟩
theorem hasB_yes {s : Int} {l : List Int} {x : Hs} (h : ∀ i, i < 4 → btB l (plc s x l.length i).toNat = true) : hasB s l x = true := by
  rw [hasB, List.all_eq_true]
  exact fun i hi => h i (by simpa using hi)
theorem bt_and (l : List Int) (hb : Byts l) (p q r : Nat) (hq : q = p / 8) (hr : r = p % 8) (z : Int) (hz : l.getD q 0 = z) : 0 ≤ z / 2 ^ r ∧ (bits .and .u8 (z / 2 ^ r) 1 == 0) = !btB l p := by
  subst hq hr hz
  have hby := hb.getD (p / 8)
  have hp := pow8 (p % 8) (by omega)
  have hpp : (0 : Int) < 2 ^ (p % 8) := Int.pow_pos (by omega)
  unfold btB
  generalize l.getD (p / 8) 0 = z at *
  have h0 : 0 ≤ z / 2 ^ (p % 8) := Int.ediv_nonneg hby.1 (by omega)
  have h1 : z / 2 ^ (p % 8) ≤ z := Int.ediv_le_self _ hby.1
  refine ⟨h0, ?_⟩
  generalize z / 2 ^ (p % 8) = y at *
  rw [and1 y (by omega)]
  rcases Int.emod_two_eq y with h | h <;> simp [h]
def HasPost (s : Int) (l : List Int) (x : Hs) (w : World) (e : Ending) (w' : World) : Prop :=
  e = .returned (.tuple #[.bool (isP l.length && hasB s l x), .int .i64 (if isP l.length = true then 0 else 60)]) ∧ Below w.heap.size w w'

set_option maxRecDepth 8000 in
set_option maxHeartbeats 4000000 in
theorem has_any (s : Int) (v : Value) (l : List Int) (x : Hs) (w : World) (hs : 0 ≤ s ∧ s < 18446744073709551616) (hr : RowAt w v l) (hb : Byts l) :
    Calls Try.prog 10 #[.int .u64 s, v, .agg (bytesA 32 x.f)] w (HasPost s l x w) := by
  unfold HasPost
  obtain ⟨ch, Hch⟩ : ∃ ch, Keep (ch = bytesA 32 x.f) := ⟨_, ⟨rfl⟩⟩
  have HIch : Keep ((Try.prog.info? 25).map (·.size) = some ch.size) := ⟨by rw [Hch.out]; exact Try.size25B _⟩
  have HOch : Keep (ch.all (·.oneCell') = true) := ⟨by rw [Hch.out]; exact bytesA_one _ _⟩
  rw [← Hch.out]
  obtain ⟨a, c, rfl⟩ := row_form hr
  have HRa := Keep.mk (hr.below (below_new w (.cells ch 25)))
  have HB := Keep.mk (below_new w (.cells ch 25))
  have H5 := Keep.mk (Blk.new w 25 ch)
  obtain ⟨g5, hg5⟩ : ∃ g, Keep (g = w.heap.size) := ⟨_, ⟨rfl⟩⟩
  have HRT := Keep.mk (right_any _ l _ HRa.out)
  have HN : Keep (isP l.length = true → (8 : Int) ≤ (l.length : Int) ∧ (l.length : Int) ≤ 8192) := ⟨isP_rng⟩
  have Hs := Keep.mk hs
  have Hb := Keep.mk hb
  clear hs hr hb
  obtain ⟨b, hbb⟩ : ∃ b, b = isP l.length := ⟨_, rfl⟩
  rw [← hbb] at HRT HN ⊢
  clear hbb
  cases b
  · go_enter Try.func10, Try.ntmps10
    go_wp2_with (first | (refine wpList_boxA rfl 25 (.tmp 2) rfl ch rfl ?_; refine Hid.out ?_))
    refine hid_in ?_
    rw [← hg5.out]
    generalize w.alloc (.cells ch 25) = wa at *
    go_wp2_with fail
    refine HRT.out.mono ?_
    rintro e w' ⟨rfl, rfl⟩
    go_wp2
    go_ret2
    exact ⟨rfl, HB.out⟩
  have HNN := Keep.mk (HN.out rfl)
  clear HN
  obtain ⟨cp, Hcp⟩ : ∃ cp, Keep (cp = intA (plc s x l.length)) := ⟨_, ⟨rfl⟩⟩
  have HC : Keep (∀ w, Calls Try.prog 11 #[.int .u64 s, .agg ch, .int .i64 (l.length : Int)] w fun e w' => e = .returned (.agg cp) ∧ Below w.heap.size w w') := ⟨fun w => by rw [Hch.out, Hcp.out]; exact places_any s x l.length w Hs.out HNN.out⟩
  have HIX : Keep (∀ k : Nat, k < 4 → ∀ w, (Instr.index 40 (.agg cp) (.int .i64 (k : Int))).run Try.prog w = .ok (.int .i64 (plc s x l.length k)) w) := ⟨fun k hk w => by rw [Hcp.out]; exact index51 _ k hk w⟩
  go_enter Try.func10, Try.ntmps10
  go_wp2_with (first | (refine wpList_boxA rfl 25 (.tmp 2) rfl ch rfl ?_; refine Hid.out ?_))
  refine hid_in ?_
  rw [← hg5.out] at H5 ⊢
  generalize w.alloc (.cells ch 25) = wa at *
  go_wp2_with fail
  refine HRT.out.mono ?_
  rintro e w' ⟨rfl, rfl⟩
  clear HRT
  go_wp2_with (first | (refine wpList_load_row rfl 25 (.tmp 5) rfl g5 rfl 25 ch (0, 0) (.array 32 5) H5.out Try.underlying25 rfl HIch.out ?_))
  refine (HC.out _).mono ?_
  rintro e wb ⟨rfl, hbb⟩
  have HBb := Keep.mk (HB.out.trans (hbb.mono HB.out.size))
  have HRb := Keep.mk (HRa.out.below hbb)
  clear hbb HB HRa HC H5
  go_wp2_with fail
  go_loop [18] (fun i => ∃ k : Nat, k ≤ 4 ∧ i = .int .i64 k ∧ ∀ i, i < k → btB l (plc s x l.length i).toNat = true) (fun i => 4 - (intOf i).toNat)
  case atStart => exact ⟨0, by omega, rfl, fun i hi => by omega⟩
  case round =>
    obtain ⟨k, hk, rfl, hall⟩ := hrel
    by_cases hlk : k < 4
    · have hlk' : (k : Int) < 4 := by omega
      have hix := HIX.out k hlk wb
      have hn := HNN.out
      have hpr := plc_rng s x l.length hn.1 k
      obtain ⟨p, hp⟩ : ∃ p : Nat, plc s x l.length k = (p : Int) := ⟨(plc s x l.length k).toNat, by omega⟩
      obtain ⟨q, hq⟩ : ∃ q, Keep (q = p / 8) := ⟨_, ⟨rfl⟩⟩
      obtain ⟨r, hr⟩ : ∃ r, Keep (r = p % 8) := ⟨_, ⟨rfl⟩⟩
      have hi8 : (p : Int) / 8 = (q : Int) := by rw [hq.out]; omega
      have hm8 : (p : Int) % 8 = (r : Int) := by rw [hr.out]; omega
      have hqn : q < l.length := by rw [hq.out]; omega
      have hqn' : (q : Int) < l.length := by omega
      have hqw : IntKind.i64.wrap (q : Int) = q := by rw [IntKind.wrap_i64]; omega
      have hmt : (p : Int).tmod 8 = (r : Int) := by rw [Int.tmod_eq_emod_of_nonneg (by omega)]; exact hm8
      have hr8 : r < 8 := by rw [hr.out]; omega
      obtain ⟨bb, oo, rfl, hc⟩ := HRb.out.at' hqn
      obtain ⟨z, hz⟩ : ∃ z, l.getD q 0 = z := ⟨_, rfl⟩
      have ha := bt_and l Hb.out p q r hq.out hr.out z hz
      have hno : Keep (btB l p = false → hasB s l x = false) := ⟨fun h => hasB_no hlk (by rw [hp, Int.toNat_natCast]; exact h)⟩
      have hyes : Keep (btB l p = true → ∀ i, i < k + 1 → btB l (plc s x l.length i).toNat = true) := ⟨fun h i hi => by
        by_cases hik : i = k
        · subst hik; rw [hp, Int.toNat_natCast]; exact h
        · exact hall i (by omega)⟩
      rw [hz] at hc
      rw [hp] at hix
      clear hp hpr hz hall
      obtain ⟨y, hy⟩ : ∃ y, z / 2 ^ r = y := ⟨_, rfl⟩
      rw [hy] at ha
      have ha0 := ha.1
      have ha1 := ha.2
      clear ha
      cases hbt : btB l p
      · rw [hbt] at ha1 hno
        have HN := Keep.mk (hno.out rfl)
        clear hyes hno hbt
        have ha2 : bits .and .u8 y 1 = 0 := by simpa using ha1
        clear ha1
        go_wp2
        go_ret2
        exact ⟨by rw [HN.out]; rfl, HBb.out⟩
      · rw [hbt] at ha1 hyes
        have HY := Keep.mk (hyes.out rfl)
        clear hyes hno hbt
        have ha2 : bits .and .u8 y 1 ≠ 0 := by simpa using ha1
        clear ha1
        go_wp2
        refine ⟨⟨k + 1, by omega, by go_num, HY.out⟩, by simp only [intOf]; omega⟩
    · obtain rfl : k = 4 := by omega
      rw [show ((4 : Nat) : Int) = 4 from rfl]
      have HY := Keep.mk (hasB_yes hall)
      clear hall
      go_wp2
      go_ret2
      exact ⟨by rw [HY.out]; rfl, HBb.out⟩

end Go.Proofs.Ytfheinghkigocab
namespace Go.Proofs.Ytfheinghkigocab
open Go.RowKit
set_option linter.unusedSimpArgs false
set_option linter.unusedVariables false

theorem Try.bs35 (c : Int) (w : World) : (Instr.buildSlice 28 1 #[(0, .int .u8 c)]).run Try.prog w = .ok (.slice (some ⟨w.heap.size, 0, none⟩) 1 1) (w.alloc (.cells #[.int .u8 c] 5)) := by kernel_rfl
/-- What is in one of two, or both. -/
def orL (l m : List Int) : List Int := hl l.length fun i => bits .or .u8 (l.getD i 0) (m.getD i 0)
theorem orL_len (l m : List Int) : (orL l m).length = l.length := hl_len _ _
def okJ (l m : List Int) : Bool := isP l.length && (l.length == m.length)
def joinL (l m : List Int) : List Int := if okJ l m = true then orL l m else []
theorem hl_set (n : Nat) (f : Nat → Int) (t : Nat) (c : Int) : (hl n f).set t c = hl n (upd f t c) := by
  apply List.ext_getElem?
  intro i
  rw [List.getElem?_set]
  by_cases h : t = i
  · subst h
    by_cases hi : t < n <;> simp [hl, upd, hi]
  · by_cases hi : i < n <;> simp [hl, upd, hi, h, Ne.symm h]
theorem hl_congr {n : Nat} {f g : Nat → Int} (h : ∀ i, i < n → f i = g i) : hl n f = hl n g := by
  unfold hl
  exact List.map_congr_left fun i hi => h i (List.mem_range.1 hi)
theorem hl_zeros (n : Nat) (f : Nat → Int) (h : ∀ i, f i = 0) : List.replicate n 0 = hl n f := by
  apply List.ext_getElem?
  intro i
  by_cases hi : i < n <;> simp [hl, hi, h]
def NewB (w : World) (v : Value) (l : List Int) (w' : World) : Prop := Own w' v l ∧ (∀ k, v.ownBlock = some k → w.heap.size ≤ k) ∧ Below w.heap.size w w'
theorem FreshB.new {w w' : World} {v : Value} {l : List Int} (h : FreshB w v l w') : NewB w v l w' := ⟨h.1, fun k hk => by
  obtain ⟨k', h1, h2⟩ := h.2.1
  rw [h1] at hk
  injection hk with hk
  omega, h.2.2⟩
def JoinPost (l m : List Int) (w : World) (e : Ending) (w' : World) : Prop :=
  ∃ v', e = .returned (.tuple #[v', .int .i64 (if okJ l m = true then 0 else 60)]) ∧ NewB w v' (joinL l m) w'

set_option maxRecDepth 8000 in
set_option maxHeartbeats 4000000 in
theorem join_any (va vb : Value) (l m : List Int) (w : World) (ha : RowAt w va l) (hb : RowAt w vb m) (hm : m.length ≤ 140737488355328) :
    Calls Try.prog 9 #[va, vb] w (JoinPost l m w) := by
  unfold JoinPost
  have HRa := Keep.mk ha
  have HRb := Keep.mk hb
  obtain ⟨aa, ac, rfl⟩ := row_form ha
  obtain ⟨ba, bc, rfl⟩ := row_form hb
  have HN : Keep (isP l.length = true → (8 : Int) ≤ (l.length : Int) ∧ (l.length : Int) ≤ 8192) := ⟨isP_rng⟩
  have HOK : Keep (okJ l m = (isP l.length && (l.length == m.length))) := ⟨rfl⟩
  have HJL : Keep (joinL l m = if okJ l m = true then orL l m else []) := ⟨rfl⟩
  have HRT := Keep.mk (right_any _ l w ha)
  clear ha hb
  obtain ⟨b, hbb⟩ : ∃ b, b = isP l.length := ⟨_, rfl⟩
  rw [← hbb] at HRT HN HOK
  clear hbb
  cases b
  · have hok : okJ l m = false := by rw [HOK.out]; simp
    rw [hok] at HJL ⊢
    clear hok HOK
    go_enter Try.func9, Try.ntmps9
    go_wp2_with (go_at_call 6; refine HRT.out.mono ?_; rintro e w' ⟨rfl, rfl⟩)
    go_ret2
    exact ⟨_, rfl, by rw [HJL.out]; exact own_nil _, fun k hk => by simp [Value.ownBlock] at hk, Below.refl _ _⟩
  have HNN := Keep.mk (HN.out rfl)
  clear HN
  by_cases hlm : l.length = m.length
  · have hok : okJ l m = true := by rw [HOK.out, hlm]; simp
    rw [hok] at HJL ⊢
    clear hok HOK
    rw [if_pos rfl] at HJL
    rw [← hlm] at HRb hm ⊢
    have HLM := Keep.mk hlm
    clear hlm
    have hn := HNN.out
    have hmk := run_makeB l.length l.length (Nat.le_refl _) (by omega) w
    have HB := Keep.mk (below_new w (.cells (bytesA l.length fun _ => 0) 5))
    have HO := Keep.mk (own_zeros (Blk.new w 5 (bytesA l.length fun _ => 0)) (by omega))
    go_enter Try.func9, Try.ntmps9
    go_wp2_with (go_at_call 6; refine HRT.out.mono ?_; rintro e w' ⟨rfl, rfl⟩)
    clear HRT hmk
    obtain ⟨gb, hgb⟩ : ∃ g, Keep (g = w'.heap.size) := ⟨_, ⟨rfl⟩⟩
    rw [← hgb.out] at HO ⊢
    have hgeb : w'.heap.size ≤ gb := by rw [hgb.out]; exact Nat.le_refl _
    generalize w'.alloc (.cells (bytesA l.length fun _ => 0) 5) = wa at *
    obtain ⟨f, hf⟩ : ∃ f : Nat → Int, Keep (f = fun i => bits .or .u8 (l.getD i 0) (m.getD i 0)) := ⟨_, ⟨rfl⟩⟩
    go_loopw [23] (fun i wr => ∃ t : Nat, t ≤ l.length ∧ i = .int .i64 t ∧ Own wr (.slice (some ⟨gb, 0, none⟩) l.length l.length) (hl l.length fun i => if i < t then f i else 0) ∧ Below w'.heap.size w' wr) (fun i _ => l.length - (intOf i).toNat)
    case atStart => exact ⟨0, by omega, rfl, (hl_zeros l.length (fun i => if i < 0 then f i else 0) fun i => by simp) ▸ HO.out, HB.out⟩
    case round =>
      clear HO HB
      obtain ⟨t, ht, rfl, hO, hB⟩ := hrel
      by_cases hlt : t < l.length
      · have hlt' : (t : Int) < l.length := by omega
        obtain ⟨b1, o1, rfl, ca0⟩ := HRa.out.at' hlt
        obtain ⟨b2, o2, rfl, cb0⟩ := HRb.out.at' (i := t) (by rw [← HLM.out]; exact hlt)
        have hl1 := cell_lt ca0
        have hl2 := cell_lt cb0
        have ca : wr.drew.cell? ⟨b1, o1 + t, none⟩ = some (.int .u8 (l.getD t 0)) := by rw [hB.drew.cell (p := ⟨b1, o1 + t, none⟩) hl1]; exact ca0
        have cb : wr.drew.cell? ⟨b2, o2 + t, none⟩ = some (.int .u8 (m.getD t 0)) := by rw [hB.drew.cell (p := ⟨b2, o2 + t, none⟩) hl2]; exact cb0
        have hft : f t = bits .or .u8 (l.getD t 0) (m.getD t 0) := by rw [hf.out]
        have hoc := hO.cells t (by rw [hl_len]; exact hlt)
        obtain ⟨z0, hz0⟩ : ∃ z0, (hl l.length fun i => if i < t then f i else 0).getD t 0 = z0 := ⟨_, rfl⟩
        rw [hz0] at hoc
        have co : wr.drew.cell? ⟨gb, t, none⟩ = some (.int .u8 z0) := hoc.1
        have ff : wr.drew.frozen? ⟨gb, t, none⟩ = false := hoc.2
        have HOn := Keep.mk ((show Own wr.drew _ _ from hO).set t (bits .or .u8 (l.getD t 0) (m.getD t 0)))
        rw [hl_set, show (hl l.length (upd (fun i => if i < t then f i else 0) t (bits .or .u8 (l.getD t 0) (m.getD t 0)))) = hl l.length fun i => if i < t + 1 then f i else 0 from hl_congr fun i hi => by
          unfold upd
          by_cases h : i = t
          · subst h; simp [hft]
          · simp only [if_neg h]
            by_cases h2 : i < t
            · rw [if_pos h2, if_pos (by omega)]
            · rw [if_neg h2, if_neg (by omega)]] at HOn
        have HBn := Keep.mk ((hB.drew).setCell hgeb (p := ⟨gb, t, none⟩) (.int .u8 (bits .or .u8 (l.getD t 0) (m.getD t 0))))
        have HSa : Keep ((wr.drew.setCell ⟨gb, t, none⟩ (.int .u8 (bits .or .u8 (l.getD t 0) (m.getD t 0)))).cell? ⟨b1, o1 + t, none⟩ = some (.int .u8 (l.getD t 0))) := ⟨by rw [HBn.out.cell (p := ⟨b1, o1 + t, none⟩) hl1]; exact ca0⟩
        have HSb : Keep ((wr.drew.setCell ⟨gb, t, none⟩ (.int .u8 (bits .or .u8 (l.getD t 0) (m.getD t 0)))).cell? ⟨b2, o2 + t, none⟩ = some (.int .u8 (m.getD t 0))) := ⟨by rw [HBn.out.cell (p := ⟨b2, o2 + t, none⟩) hl2]; exact cb0⟩
        clear hO hB hft hoc hz0 ca0 cb0 hl1 hl2
        generalize l.getD t 0 = za at *
        generalize m.getD t 0 = zb at *
        go_wp2_with fail
        refine wp_region_held_drew (S := fun wx => wx.cell? ⟨b1, o1 + t, none⟩ = some (.int .u8 za) ∧ wx.cell? ⟨b2, o2 + t, none⟩ = some (.int .u8 zb)) (by kernel_rfl) ⟨ca, cb⟩ (fun hHeld => ?_)
        generalize wr.drew = wd at *
        refine wpAnyH_take (i := 0) (oi := ⟨some 26, Op.move (Operand.tmp 6), 28, _, _, none⟩) (v := .slice (some ⟨gb, 0, none⟩) l.length l.length) rfl (by kernel_rfl) (by kernel_rfl) (by kernel_rfl) (fun _ _ _ h => h) (Or.inl ⟨by rfl, fun w hS => by go_simp⟩) hHeld ?_
        simp only [Act.put, List.setIfInBounds_toArray, List.set_cons_zero, List.set_cons_succ]
        refine wpAnyH_take (i := 1) (oi := ⟨some 27, Op.move (Operand.tmp 7), 3, _, _, none⟩) (v := .int .i64 (t : Int)) rfl (by kernel_rfl) (by kernel_rfl) (by kernel_rfl) (fun _ _ _ h => h) (Or.inl ⟨by rfl, fun w hS => by go_simp⟩) hHeld ?_
        simp only [Act.put, List.setIfInBounds_toArray, List.set_cons_zero, List.set_cons_succ]
        refine wpAnyH_take (i := 2) (oi := ⟨some 28, Op.move (Operand.tmp 0), 28, _, _, none⟩) (v := .slice (some ⟨b1, o1, none⟩) l.length ac) rfl (by kernel_rfl) (by kernel_rfl) (by kernel_rfl) (fun _ _ _ h => h) (Or.inl ⟨by rfl, fun w hS => by go_simp⟩) hHeld ?_
        simp only [Act.put, List.setIfInBounds_toArray, List.set_cons_zero, List.set_cons_succ]
        refine wpAnyH_take (i := 3) (oi := ⟨some 29, Op.move (Operand.tmp 7), 3, _, _, none⟩) (v := .int .i64 (t : Int)) rfl (by kernel_rfl) (by kernel_rfl) (by kernel_rfl) (fun _ _ _ h => h) (Or.inl ⟨by rfl, fun w hS => by go_simp⟩) hHeld ?_
        simp only [Act.put, List.setIfInBounds_toArray, List.set_cons_zero, List.set_cons_succ]
        refine wpAnyH_take (i := 4) (oi := ⟨some 30, Op.indexAddr 28 (Operand.tmp 28) (Operand.tmp 29), 0, _, _, none⟩) (v := .pointer (some ⟨b1, o1 + t, none⟩)) rfl (by kernel_rfl) (by kernel_rfl) (by kernel_rfl) (fun _ _ _ h => h) (Or.inl ⟨by rfl, fun w hS => by go_simp⟩) hHeld ?_
        simp only [Act.put, List.setIfInBounds_toArray, List.set_cons_zero, List.set_cons_succ]
        refine wpAnyH_take (i := 5) (oi := ⟨some 31, Op.load 5 (Operand.tmp 30), 5, _, _, none⟩) (v := .int .u8 za) rfl (by kernel_rfl) (by kernel_rfl) (by kernel_rfl) (fun _ _ _ h => h) (Or.inl ⟨by rfl, fun w hS => by have h1 := hS.1; go_simp⟩) hHeld ?_
        simp only [Act.put, List.setIfInBounds_toArray, List.set_cons_zero, List.set_cons_succ]
        refine wpAnyH_take (i := 6) (oi := ⟨some 32, Op.move (Operand.tmp 1), 28, _, _, none⟩) (v := .slice (some ⟨b2, o2, none⟩) l.length bc) rfl (by kernel_rfl) (by kernel_rfl) (by kernel_rfl) (fun _ _ _ h => h) (Or.inl ⟨by rfl, fun w hS => by go_simp⟩) hHeld ?_
        simp only [Act.put, List.setIfInBounds_toArray, List.set_cons_zero, List.set_cons_succ]
        refine wpAnyH_take (i := 7) (oi := ⟨some 33, Op.move (Operand.tmp 7), 3, _, _, none⟩) (v := .int .i64 (t : Int)) rfl (by kernel_rfl) (by kernel_rfl) (by kernel_rfl) (fun _ _ _ h => h) (Or.inl ⟨by rfl, fun w hS => by go_simp⟩) hHeld ?_
        simp only [Act.put, List.setIfInBounds_toArray, List.set_cons_zero, List.set_cons_succ]
        refine wpAnyH_take (i := 8) (oi := ⟨some 34, Op.indexAddr 28 (Operand.tmp 32) (Operand.tmp 33), 0, _, _, none⟩) (v := .pointer (some ⟨b2, o2 + t, none⟩)) rfl (by kernel_rfl) (by kernel_rfl) (by kernel_rfl) (fun _ _ _ h => h) (Or.inl ⟨by rfl, fun w hS => by go_simp⟩) hHeld ?_
        simp only [Act.put, List.setIfInBounds_toArray, List.set_cons_zero, List.set_cons_succ]
        refine wpAnyH_take (i := 9) (oi := ⟨some 35, Op.load 5 (Operand.tmp 34), 5, _, _, none⟩) (v := .int .u8 zb) rfl (by kernel_rfl) (by kernel_rfl) (by kernel_rfl) (fun _ _ _ h => h) (Or.inl ⟨by rfl, fun w hS => by have h1 := hS.2; go_simp⟩) hHeld ?_
        simp only [Act.put, List.setIfInBounds_toArray, List.set_cons_zero, List.set_cons_succ]
        refine wpAnyH_take (i := 10) (oi := ⟨some 36, Op.binOp BinOp.or 5 (Operand.tmp 31) (Operand.tmp 35) 5, 5, _, _, none⟩) (v := .int .u8 (bits .or .u8 za zb)) rfl (by kernel_rfl) (by kernel_rfl) (by kernel_rfl) (fun _ _ _ h => h) (Or.inl ⟨by rfl, fun w hS => by go_simp⟩) hHeld ?_
        simp only [Act.put, List.setIfInBounds_toArray, List.set_cons_zero, List.set_cons_succ]
        refine wpAnyH_take (i := 11) (oi := ⟨some 37, Op.indexAddr 28 (Operand.tmp 26) (Operand.tmp 27), 0, _, _, none⟩) (v := .pointer (some ⟨gb, t, none⟩)) rfl (by kernel_rfl) (by kernel_rfl) (by kernel_rfl) (fun _ _ _ h => h) (Or.inl ⟨by rfl, fun w hS => by go_simp⟩) hHeld ?_
        simp only [Act.put, List.setIfInBounds_toArray, List.set_cons_zero, List.set_cons_succ]
        refine wpAnyH_ready (rs := [12]) (by kernel_rfl) (by simp) ?_
        refine AllReadyH.cons (o := ⟨none, Op.store 5 (Operand.tmp 37) (Operand.tmp 36), 0, _, _, none⟩) rfl (fun K hK => ?_) (AllReadyH.nil)
        all_goals rw [if_pos (by rfl)]
        go_simp
        refine hK.out _ _ ⟨HSa.out, HSb.out⟩ fun _ => ?_
        clear hK
        refine wpAnyH_done (by kernel_rfl) ?_ _
        generalize wd.setCell ⟨gb, t, none⟩ (.int .u8 (bits .or .u8 za zb)) = we at *
        clear ca cb co ff hHeld HSa HSb
        go_wp2
        go_roundw
        case rel => exact ⟨t + 1, by omega, by go_num, HOn.out, HBn.out⟩
        case measure => simp only [intOf]; omega
      · obtain rfl : t = l.length := by omega
        have HO := Keep.mk (show Own wr (.slice (some ⟨gb, 0, none⟩) l.length l.length) (orL l m) from (show (hl l.length fun i => if i < l.length then f i else 0) = orL l m from hl_congr fun i hi => by rw [if_pos hi, hf.out]) ▸ hO)
        have HB := Keep.mk hB
        clear hO hB
        go_wp2
        go_ret2
        exact ⟨_, rfl, by rw [HJL.out]; exact HO.out, fun k hk => by simp [Value.ownBlock] at hk; omega, HB.out⟩
  · have hok : okJ l m = false := by rw [HOK.out]; simp [hlm]
    rw [hok] at HJL ⊢
    clear hok HOK
    have hlm' : (l.length : Int) ≠ m.length := by omega
    go_enter Try.func9, Try.ntmps9
    go_wp2_with (go_at_call 6; refine HRT.out.mono ?_; rintro e w' ⟨rfl, rfl⟩)
    go_ret2
    exact ⟨_, rfl, by rw [HJL.out]; exact own_nil _, fun k hk => by simp [Value.ownBlock] at hk, Below.refl _ _⟩

set_option maxRecDepth 8000 in
set_option maxHeartbeats 1000000 in
theorem fixed_any (w : World) : Calls Try.prog 4 #[] w fun e w' => e = .returned (.bool true) ∧ Below w.heap.size w w' := by
  have HS : Keep (∀ w, Calls Try.prog 8 #[.int .i64 7] w fun e w' => e = .returned (.int .i64 16) ∧ w' = w) := ⟨fun w => by
    have := size_any 7 w
    rw [show (szN 7 : Int) = 16 from rfl] at this
    exact this⟩
  have HO := Keep.mk (Of_any 0 [] (.slice none 0 0) w (by omega) (.inl ⟨none, 0, rfl, rfl, fun _ => rfl⟩) (by simp))
  have HL : Keep ((digL 0 []).length = 8) := ⟨by rw [digL_len]; rfl⟩
  have HP : Keep (isP ((8 : Nat) : Int) = true) := ⟨by decide⟩
  go_enter Try.func4, Try.ntmps4
  go_wp2_with (first | (go_at_call 8; refine (HS.out _).mono ?_; rintro e w' ⟨rfl, rfl⟩))
  refine HO.out.mono ?_
  rintro e w2 ⟨v, rfl, hF⟩
  obtain ⟨a, c, rfl⟩ := row_form hF.1.row
  have HR := Keep.mk (right_any _ _ w2 hF.1.row)
  have HB := Keep.mk hF.2.2
  rw [HL.out, HP.out] at HR
  rw [HL.out]
  clear hF
  go_wp2_with (first | (go_at_call 6; refine HR.out.mono ?_; rintro e w' ⟨rfl, rfl⟩))
  go_ret
  exact ⟨rfl, HB.out⟩

end Go.Proofs.Ytfheinghkigocab
namespace Go.Proofs.Ytfheinghkigocab
open Go.RowKit
set_option linter.unusedSimpArgs false
set_option linter.unusedVariables false

/-! ### What digests have. -/
theorem or_bit (a b : Int) (ha : 0 ≤ a ∧ a < 256) (hb : 0 ≤ b ∧ b < 256) (j : Nat) : (bits .or .u8 a b / 2 ^ j % 2 = 1) ↔ (a / 2 ^ j % 2 = 1 ∨ b / 2 ^ j % 2 = 1) := by
  obtain ⟨x, rfl⟩ := Int.eq_ofNat_of_zero_le ha.1
  obtain ⟨y, rfl⟩ := Int.eq_ofNat_of_zero_le hb.1
  have h := (bits_nat .u8 8 (by decide) (fun n h0 h1 => by rw [IntKind.wrap_u8]; omega) x y (by omega) (by omega)).2
  rw [h]
  have e : ∀ z : Nat, ((z : Int) / 2 ^ j % 2 = 1) ↔ z.testBit j = true := by
    intro z
    rw [Nat.testBit_eq_decide_div_mod_eq, decide_eq_true_iff]
    have : ((z / 2 ^ j % 2 : Nat) : Int) = (z : Int) / 2 ^ j % 2 := by push_cast; rfl
    omega
  rw [e, e, e, Nat.testBit_or, Bool.or_eq_true]
theorem pow_bit (r : Nat) : (2 : Int) ^ r / 2 ^ r % 2 = 1 := by
  rw [Int.ediv_self (Int.ne_of_gt (Int.pow_pos (by omega)))]
  rfl
theorem btB_iff (l : List Int) (p : Nat) : btB l p = true ↔ l.getD (p / 8) 0 / 2 ^ (p % 8) % 2 = 1 := by
  unfold btB; rw [beq_iff_eq]
theorem getD_set (l : List Int) (q i : Nat) (c : Int) (hq : q < l.length) : (l.set q c).getD i 0 = if i = q then c else l.getD i 0 := by
  rw [List.getD_eq_getElem?_getD, List.getElem?_set, List.getD_eq_getElem?_getD]
  by_cases h : q = i
  · subst h; simp [hq]
  · simp [h, Ne.symm h]
theorem set_bit {l : List Int} (h : Byts l) (p : Nat) (hp : p / 8 < l.length) : btB (setB l p) p = true := by
  rw [btB_iff, setB, getD_set _ _ _ _ hp, if_pos rfl, or_bit _ _ (h.getD _) (pow8 _ (by omega))]
  exact .inr (pow_bit _)
theorem set_mono {l : List Int} (h : Byts l) (p q : Nat) (hp : p / 8 < l.length) (hq : btB l q = true) : btB (setB l p) q = true := by
  rw [btB_iff] at hq ⊢
  rw [setB, getD_set _ _ _ _ hp]
  split
  · rename_i e
    rw [or_bit _ _ (h.getD _) (pow8 _ (by omega)), ← e]
    exact .inl hq
  · exact hq
theorem add_mono {l : List Int} (h : Byts l) (f : Nat → Int) (hf : ∀ i, (f i).toNat / 8 < l.length) (q : Nat) (hq : btB l q = true) : ∀ k, btB (addU l f k) q = true
  | 0 => hq
  | k + 1 => set_mono (addU_byts h f k) _ _ (by rw [addU_len]; exact hf k) (add_mono h f hf q hq k)
theorem add_bit {l : List Int} (h : Byts l) (f : Nat → Int) (hf : ∀ i, (f i).toNat / 8 < l.length) : ∀ k i, i < k → btB (addU l f k) (f i).toNat = true
  | 0, i, hi => by omega
  | k + 1, i, hi => by
    by_cases e : i = k
    · subst e; exact set_bit (addU_byts h f i) _ (by rw [addU_len]; exact hf i)
    · exact set_mono (addU_byts h f k) _ _ (by rw [addU_len]; exact hf k) (add_bit h f hf k i (by omega))
theorem plc_in (s : Int) (x : Hs) (n : Nat) (hn : 8 ≤ n) (i : Nat) : (plc s x n i).toNat / 8 < n := by
  have := plc_rng s x n (by omega) i
  omega
theorem dig_has (s : Int) (n : Nat) (hn : 8 ≤ n) (L : List Hs) : ∀ t j, j < t → ∀ i, i < 4 → btB (digU s n L t) (plc s (L.getD j default) n i).toNat = true
  | 0, j, hj, i, hi => by omega
  | t + 1, j, hj, i, hi => by
    by_cases e : j = t
    · subst e
      exact add_bit (digU_byts s n L j) _ (fun k => by rw [digU_len]; exact plc_in s _ n hn k) 4 i hi
    · exact add_mono (digU_byts s n L t) _ (fun k => by rw [digU_len]; exact plc_in s _ n hn k) _ (dig_has s n hn L t j (by omega) i hi) 4
theorem digL_has (s : Int) (L : List Hs) (j : Nat) (hj : j < L.length) : hasB s (digL s L) (L.getD j default) = true := by
  have hn := szN_rng L.length
  refine hasB_yes fun i hi => ?_
  rw [digL_len]
  exact dig_has s (szN L.length) hn.1 L L.length j hj i hi
theorem or_has {s : Int} {l m : List Int} {x : Hs} (hl : Byts l) (hm : Byts m) (h8 : 8 ≤ l.length) (h : hasB s l x = true) : hasB s (orL l m) x = true ∧ (m.length = l.length → hasB s (orL m l) x = true) := by
  have hb : ∀ i, i < 4 → btB l (plc s x l.length i).toNat = true := fun i hi => by
    rw [hasB, List.all_eq_true] at h
    exact h i (by simpa using hi)
  have hin : ∀ i, (plc s x l.length i).toNat / 8 < l.length := fun i => plc_in s x l.length h8 i
  constructor
  · refine hasB_yes fun i hi => ?_
    rw [orL_len]
    have h1 := (btB_iff _ _).1 (hb i hi)
    rw [btB_iff, orL, hl_get _ _ _ (hin i), or_bit _ _ (hl.getD _) (hm.getD _)]
    exact .inl h1
  · intro e
    refine hasB_yes fun i hi => ?_
    rw [orL_len, e]
    have h1 := (btB_iff _ _).1 (hb i hi)
    rw [btB_iff, orL, hl_get _ _ _ (by rw [e]; exact hin i), or_bit _ _ (hm.getD _) (hl.getD _)]
    exact .inr h1
/-! ### How many bits. -/
theorem pop_or : ∀ z : Fin 256, ∀ r : Fin 8, pop (bits .or .u8 (z.val : Int) (2 ^ r.val)) ≤ pop (z.val : Int) + 1 := by decide +kernel
theorem pop_or' (z : Int) (hz : 0 ≤ z ∧ z < 256) (r : Nat) (hr : r < 8) : pop (bits .or .u8 z (2 ^ r)) ≤ pop z + 1 := by
  have := pop_or ⟨z.toNat, by omega⟩ ⟨r, hr⟩
  simpa [Int.toNat_of_nonneg hz.1] using this
theorem popU_set (l : List Int) (q : Nat) (c : Int) (hq : q < l.length) : ∀ k, popU (l.set q c) k = popU l k + if q < k then pop c - pop (l.getD q 0) else 0
  | 0 => by simp [popU]
  | k + 1 => by
    rw [popU, popU, popU_set l q c hq k, getD_set _ _ _ _ hq]
    by_cases h : k = q
    · subst h
      rw [if_pos rfl, if_neg (by omega), if_pos (by omega)]; omega
    · rw [if_neg h]
      by_cases h2 : q < k
      · rw [if_pos h2, if_pos (by omega)]; omega
      · rw [if_neg h2, if_neg (by omega)]; omega
theorem popU_setB {l : List Int} (h : Byts l) (p : Nat) (hp : p / 8 < l.length) (k : Nat) : popU (setB l p) k ≤ popU l k + 1 := by
  rw [setB, popU_set _ _ _ hp]
  have := pop_or' (l.getD (p / 8) 0) (h.getD _) (p % 8) (by omega)
  split <;> omega
theorem popU_add {l : List Int} (h : Byts l) (f : Nat → Int) (hf : ∀ i, (f i).toNat / 8 < l.length) (n : Nat) : ∀ k : Nat, popU (addU l f k) n ≤ popU l n + k
  | 0 => by simp [addU]
  | k + 1 => by
    have h1 := popU_add h f hf n k
    have h2 := popU_setB (addU_byts h f k) (f k).toNat (by rw [addU_len]; exact hf k) n
    rw [addU]
    push_cast
    omega
theorem popU_zero (n : Nat) : ∀ k, popU (List.replicate n 0) k = 0
  | 0 => rfl
  | k + 1 => by
    rw [popU, popU_zero n k]
    have : (List.replicate n (0 : Int)).getD k 0 = 0 := by
      rw [List.getD_eq_getElem?_getD]
      by_cases h : k < n <;> simp [h]
    rw [this]
    rfl
theorem popU_dig (s : Int) (n : Nat) (hn : 8 ≤ n) (L : List Hs) : ∀ t : Nat, popU (digU s n L t) n ≤ 4 * t
  | 0 => by rw [digU, popU_zero]; omega
  | t + 1 => by
    have h1 := popU_dig s n hn L t
    have h2 := popU_add (digU_byts s n L t) (plc s (L.getD t default) n) (fun i => by rw [digU_len]; exact plc_in s _ n hn i) n 4
    rw [digU]
    push_cast at h2 ⊢
    omega
theorem pop_pos : ∀ z : Fin 256, ∀ j : Fin 8, (z.val : Int) / 2 ^ j.val % 2 = 1 → 1 ≤ pop (z.val : Int) := by decide +kernel
theorem popU_mono (l : List Int) {k n : Nat} (h : k ≤ n) : popU l k ≤ popU l n := by
  induction n with
  | zero => obtain rfl : k = 0 := by omega
            exact Int.le_refl _
  | succ n ih =>
    by_cases e : k = n + 1
    · rw [e]; exact Int.le_refl _
    · have := ih (by omega)
      have := pop_rng (l.getD n 0)
      rw [popU]; omega
theorem popU_one {l : List Int} (h : Byts l) (p : Nat) (hp : p / 8 < l.length) (hb : btB l p = true) : 1 ≤ popU l l.length := by
  have hz := h.getD (p / 8)
  have h1 := pop_pos ⟨(l.getD (p / 8) 0).toNat, by omega⟩ ⟨p % 8, by omega⟩
  simp only [Int.toNat_of_nonneg hz.1] at h1
  have h2 := h1 ((btB_iff l p).1 hb)
  have h3 := popU_mono l (show p / 8 + 1 ≤ l.length by omega)
  have h4 := (popU_rng l (p / 8)).1
  rw [popU] at h3
  omega
theorem digL_pop (s : Int) (L : List Hs) (h0 : 0 < L.length) : 1 ≤ popU (digL s L) (digL s L).length ∧ popU (digL s L) (digL s L).length ≤ 4 * (L.length : Int) := by
  have hn := szN_rng L.length
  constructor
  · refine popU_one (digL_byts s L) (plc s (L.getD 0 default) (szN L.length) 0).toNat (by rw [digL_len]; exact plc_in s _ _ hn.1 0) ?_
    exact dig_has s (szN L.length) hn.1 L L.length 0 h0 0 (by omega)
  · rw [digL_len]
    exact popU_dig s _ hn.1 L L.length
end Go.Proofs.Ytfheinghkigocab
namespace Go.Proofs.Ytfheinghkigocab
open Go.RowKit
set_option linter.unusedSimpArgs false
set_option linter.unusedVariables false

theorem Try.lin10 (w : World) (vs : Array Value) : (callFunc 10 vs).run Try.prog w = .ok (.enter 10 vs) w := by kernel_rfl

structure LS (w : World) (g2 : Nat) (ca : Array Value) (v6 v7 v10 v12 : Value) (G : List Hs) (d J K : List Int) (wr : World) : Prop where
  g : Blk wr g2 27 ca
  r : HRow wr v6 G
  d : RowAt wr v7 d
  j : RowAt wr v10 J
  k : RowAt wr v12 K
  B : Below w.heap.size w wr
theorem LS.more {w wr w' : World} {g2 : Nat} {ca : Array Value} {v6 v7 v10 v12 : Value} {G : List Hs} {d J K : List Int} (h : LS w g2 ca v6 v7 v10 v12 G d J K wr) (hb : Below wr.heap.size wr w') : LS w g2 ca v6 v7 v10 v12 G d J K w' :=
  ⟨h.g.below hb h.g.lt, h.r.below hb, h.d.below hb, h.j.below hb, h.k.below hb, h.B.trans (hb.mono h.B.size)⟩
theorem ownsH_empty {w : World} {g base : Nat} (h : Blk w g 25 #[]) (hb : base ≤ g) : w.ownsRow base 25 32 (.slice (some ⟨g, 0, none⟩) 0 0) ([] : List Hs).length (flatH []) :=
  ⟨rfl, .inr ⟨g, 0, #[], rfl, hb, h, Nat.le_refl _, by unfold maxLen; omega, rfl, rfl⟩⟩
theorem ownsH_lt {w : World} {base : Nat} {v : Value} {n : Nat} {xs : List Value} (h : w.ownsRow base 25 32 v n xs) : ∀ k, v.ownBlock = some k → base ≤ k ∧ k < w.heap.size := fun k hk => by
  rcases h.2 with ⟨rfl, _⟩ | ⟨g, cap, cur, rfl, hb, hg, _⟩
  · simp [Value.ownBlock] at hk
  · simp [Value.ownBlock] at hk
    subst hk
    exact ⟨hb, Blk.lt hg⟩
theorem ownsH_ne {w : World} {base : Nat} {v : Value} {n : Nat} {xs : List Value} (h : w.ownsRow base 25 32 v n xs) {g : Nat} {T : TypeId} {cs : Array Value} (hg : Blk w g T cs) (hT : T ≠ 25) : v.ownBlock ≠ some g := fun e => by
  rcases h.2 with ⟨rfl, _⟩ | ⟨g', cap, cur, rfl, hb, hg', _⟩
  · simp [Value.ownBlock] at e
  · simp [Value.ownBlock] at e
    subst e
    exact hT (blk_type hg hg')
theorem hash_at' {w : World} {b o n c : Nat} {L : List Hs} (h : HRow w (.slice (some ⟨b, o, none⟩) n c) L) {t : Nat} (ht : t < L.length) {x : Hs} (hx : x = L.getD t default) : w.rangeAt b (o + t * 32) (encH x) := by
  obtain ⟨b', o', e1, h2⟩ := hash_at h ht
  simp only [Option.some.injEq, Addr.mk.injEq, and_true] at e1
  obtain ⟨rfl, rfl⟩ := e1
  rw [hx]
  exact h2
theorem orL_byts {l m : List Int} (hl : Byts l) (hm : Byts m) : Byts (orL l m) := fun c hc => by
  unfold orL Go.Proofs.Ytfheinghkigocab.hl at hc
  obtain ⟨i, _, rfl⟩ := List.mem_map.1 hc
  exact or_u8 _ _ (hl.getD i) (hm.getD i)
theorem ask_get (s : Int) (v : Value) (y : Hs) : (.int .u64 s :: v :: encH y).toArray[0]? = some (.int .u64 s) ∧ (.int .u64 s :: v :: encH y).toArray[1]? = some v := ⟨rfl, rfl⟩
theorem ask_range {w : World} {g : Nat} {s : Int} {v : Value} {y : Hs} (h : Blk w g 27 (.int .u64 s :: v :: encH y).toArray) : w.rangeAt g 2 (encH y) := fun j u hu => by
  rw [h.cell, List.getElem?_toArray, show 2 + j = j + 1 + 1 by omega, List.getElem?_cons_succ, List.getElem?_cons_succ]
  exact hu

set_option maxRecDepth 8000 in
set_option maxHeartbeats 8000000 in
theorem blies_any (s : Int) (v : Value) (L : List Hs) (y : Hs) (vb : Value) (lb : List Int) (w : World) (hs : 0 ≤ s ∧ s < 18446744073709551616) (hR : HRow w v L) (hl : L.length ≤ 4398046510976) (hRb : RowAt w vb lb) (hBy : Byts lb) (hlb : lb.length ≤ 140737488351232) (hltb : ∀ k, vb.ownBlock = some k → k < w.heap.size) :
    Calls Try.prog 3 #[.agg (.int .u64 s :: v :: encH y).toArray, vb] w fun e w' => e = .returned (.bool true) ∧ Below w.heap.size w w' := by
  obtain ⟨la, lc, hv⟩ := hR.form
  obtain ⟨ba, bc, hvb⟩ := row_form hRb
  obtain ⟨ca, Hca⟩ : ∃ ca, Keep (ca = (.int .u64 s :: v :: encH y).toArray) := ⟨_, ⟨rfl⟩⟩
  rw [← Hca.out]
  have HBB : Keep (∀ k, vb.ownBlock = some k → k < w.heap.size) := ⟨hltb⟩
  clear hltb
  have HSs := Keep.mk hs
  have HR0 := Keep.mk (hR.below (below_new w (.cells ca 27)))
  have HRb0 := Keep.mk (hRb.below (below_new w (.cells ca 27)))
  have HBy := Keep.mk hBy
  have Hl := Keep.mk hl
  have Hlb := Keep.mk hlb
  have Hv := Keep.mk hv
  have Hvb := Keep.mk hvb
  clear hs hR hRb hBy hl hlb hv hvb
  obtain ⟨M, hM⟩ : ∃ M, Keep (M = lb.length) := ⟨_, ⟨rfl⟩⟩
  rw [Hvb.out, ← hM.out]
  rw [← hM.out] at Hvb Hlb
  have hMb : (M : Int) ≤ 140737488351232 := by have := Hlb.out; omega
  have HA2 : Keep (ca[0]? = some (.int .u64 s) ∧ ca[1]? = some v) := ⟨by rw [Hca.out]; exact ask_get s v y⟩
  go_enter Try.func3, Try.ntmps3
  go_wp2_with (first | (refine wpList_boxA rfl 27 (.tmp 0) rfl ca rfl ?_; refine Hid.out ?_))
  refine hid_in ?_
  have H2 := Keep.mk (Blk.new w 27 ca)
  have HB := Keep.mk (below_new w (.cells ca 27))
  obtain ⟨g2, hg2⟩ : ∃ g, Keep (g = w.heap.size) := ⟨_, ⟨rfl⟩⟩
  rw [← hg2.out] at H2 ⊢
  generalize w.alloc (.cells ca 27) = wa at *
  go_wp2_with fail
  refine (fixed_any wa).mono ?_
  rintro e w1 ⟨rfl, hb1⟩
  have HR1 := Keep.mk ((HR0.out.below hb1).below (below_new w1 (.cells #[] 25)))
  have HRb1 := Keep.mk ((HRb0.out.below hb1).below (below_new w1 (.cells #[] 25)))
  have H2a := Keep.mk ((H2.out.below hb1 H2.out.lt).alloc (.cells #[] 25))
  have HBa := Keep.mk ((HB.out.trans (hb1.mono HB.out.size)).alloc (HB.out.trans (hb1.mono HB.out.size)).size (.cells #[] 25))
  have HOa := Keep.mk (ownsH_empty (base := w.heap.size) (Blk.new w1 25 #[]) (HB.out.trans (hb1.mono HB.out.size)).size)
  have hc1 : (w1.alloc (.cells #[] 25)).cell? ⟨g2, 1, none⟩ = some v := by rw [H2a.out.cell]; exact HA2.out.2
  have hlt2 := (H2.out.below hb1 H2.out.lt).lt
  have HN2 : Keep (w1.heap.size ≠ g2) := ⟨by omega⟩
  have hbs : w.heap.size ≤ (w1.alloc (.cells #[] 25)).heap.size := HBa.out.size
  have HB1s : Keep (w.heap.size ≤ w1.heap.size) := ⟨(HB.out.trans (hb1.mono HB.out.size)).size⟩
  clear hb1 HR0 HRb0 H2 HB hlt2
  obtain ⟨ga, hga⟩ : ∃ g, Keep (g = w1.heap.size) := ⟨_, ⟨rfl⟩⟩
  rw [← hga.out] at HOa HN2
  obtain ⟨v22, hv22⟩ : ∃ v22, Keep (v22 = Value.slice (some ⟨ga, 0, none⟩) 0 0) := ⟨_, ⟨rfl⟩⟩
  rw [← hv22.out] at HOa
  have hbsl : (Instr.buildSlice 23 0 #[]).run Try.prog w1 = .ok v22 (w1.alloc (.cells #[] 25)) := by rw [hv22.out, hga.out]; exact Try.bs0 w1
  obtain ⟨w2, hw2⟩ : ∃ w2, Keep (w2 = w1.alloc (.cells #[] 25)) := ⟨_, ⟨rfl⟩⟩
  rw [← hw2.out] at HR1 HRb1 H2a HBa HOa hc1 hbs hbsl
  rename_i K1 hK1 K2 hK2
  refine hK2 _ _ ?_
  refine WL.out ?_
  refine WL.val (by kernel_rfl) (.bool true) (by go_simp) ?_
  simp only [Act.put, List.setIfInBounds_toArray, List.set_cons_zero, List.set_cons_succ]
  refine WL.nil ?_
  refine hK1 _ _ ?_
  clear hK1 hK2 K1 K2
  refine wp_seq_k fun K3 hK3 => ?_
  refine wp_region_list (WL.out ?_)
  refine WL.bs (by kernel_rfl) 23 0 _ rfl #[] (by simp) _ _ hbsl ?_
  simp only [Act.put, List.setIfInBounds_toArray, List.set_cons_zero, List.set_cons_succ]
  refine WL.val (by kernel_rfl) (.pointer (some ⟨g2, 1, none⟩)) (by go_simp) ?_
  simp only [Act.put, List.setIfInBounds_toArray, List.set_cons_zero, List.set_cons_succ]
  refine WL.val (by kernel_rfl) v (by go_simp) ?_
  simp only [Act.put, List.setIfInBounds_toArray, List.set_cons_zero, List.set_cons_succ]
  refine WL.call (by kernel_rfl) fun K hK => ?_
  refine wp_appH (.tmp 22) (.tmp 24) rfl w.heap.size v22 v [] L rfl rfl HOa.out HR1.out (by have := Hl.out; simp; omega) hbs ?_
  intro v5 w3 hO hg
  refine hK _ _ ?_
  clear hK
  simp only [Act.put, List.setIfInBounds_toArray, List.set_cons_zero, List.set_cons_succ]
  refine WL.val (by kernel_rfl) v5 (by go_simp) ?_
  simp only [Act.put, List.setIfInBounds_toArray, List.set_cons_zero, List.set_cons_succ]
  refine WL.nil ?_
  refine hK3 _ _ ?_
  clear hK3 K3
  rw [List.nil_append] at hO
  have hG3 : Grown w2 w3 fun k => k = ga := Grown.of hg fun k _ e => by rw [hv22.out] at e; simp [Value.ownBlock] at e; exact e.symm
  have hgea : w.heap.size ≤ ga := by rw [hga.out]; exact HB1s.out
  have H2b := Keep.mk (hG3.blk H2a.out (fun e => HN2.out e.symm))
  have HRb2 := Keep.mk (HRb1.out.grown hG3 (fun b hb hlb e => by have := HBB.out b hb; omega))
  have HBb := Keep.mk (HBa.out.trans (hG3.to_below (fun k hk e => by omega) HBa.out.size))
  have HOb := Keep.mk hO
  clear hO hg hG3 H2a HRb1 HBa HOa HR1 hc1 hbs
  have hiH : (Try.prog.info? 25).map (·.size) = some (encH y).length := Try.size25L y
  have hu := Try.underlying25
  have hrg : w3.rangeAt g2 2 (encH y) := ask_range (by rw [← Hca.out]; exact H2b.out)
  obtain ⟨cy, Hcy⟩ : ∃ cy, Keep (cy = (encH y).toArray) := ⟨_, ⟨rfl⟩⟩
  have hb1 : (Instr.buildSlice 23 1 #[(0, .agg cy)]).run Try.prog w3 = .ok (.slice (some ⟨w3.heap.size, 0, none⟩) 1 1) (w3.alloc (.cells cy 25)) := by rw [Hcy.out]; exact bs1H y w3
  have HOR : Keep (HRow (w3.alloc (.cells cy 25)) (.slice (some ⟨w3.heap.size, 0, none⟩) 1 1) [y]) := ⟨by rw [Hcy.out]; exact one_row y w3⟩
  have HOc := Keep.mk (ownsH_below HOb.out (below_new w3 (.cells cy 25)))
  have H2c := Keep.mk (H2b.out.alloc (.cells cy 25))
  have HRb3 := Keep.mk (HRb2.out.below (below_new w3 (.cells cy 25)))
  have HBc := Keep.mk (HBb.out.alloc HBb.out.size (.cells cy 25))
  have hlt6 := ownsH_lt HOb.out
  clear H2b HRb2 HBb HOb
  refine wp_seq_k fun K4 hK4 => ?_
  refine wp_region_list (WL.out ?_)
  refine WL.val (by kernel_rfl) v5 (by go_simp) ?_
  simp only [Act.put, List.setIfInBounds_toArray, List.set_cons_zero, List.set_cons_succ]
  refine WL.val (by kernel_rfl) (.pointer (some ⟨g2, 2, none⟩)) (by go_simp) ?_
  simp only [Act.put, List.setIfInBounds_toArray, List.set_cons_zero, List.set_cons_succ]
  refine WL.mid (by kernel_rfl) 25 (.tmp 27) rfl g2 2 rfl (encH y) _ hrg hu rfl hiH ?_
  rw [← Hcy.out]
  simp only [Act.put, List.setIfInBounds_toArray, List.set_cons_zero, List.set_cons_succ]
  refine WL.bs (by kernel_rfl) 23 1 _ rfl #[(0, .agg cy)] (by simp [Act.eval]) _ _ hb1 ?_
  simp only [Act.put, List.setIfInBounds_toArray, List.set_cons_zero, List.set_cons_succ]
  clear hb1 hrg hiH
  obtain ⟨g1, hg1⟩ : ∃ g, Keep (g = w3.heap.size) := ⟨_, ⟨rfl⟩⟩
  rw [← hg1.out] at HOR ⊢
  generalize w3.alloc (.cells cy 25) = w4 at *
  refine WL.call (by kernel_rfl) fun K hK => ?_
  refine wp_appH (.tmp 26) (.tmp 29) rfl w.heap.size v5 (.slice (some ⟨g1, 0, none⟩) 1 1) L [y] rfl rfl HOc.out HOR.out (by have := Hl.out; simp; omega) HBc.out.size ?_
  intro v6 w5 hO hg
  refine hK _ _ ?_
  clear hK
  simp only [Act.put, List.setIfInBounds_toArray, List.set_cons_zero, List.set_cons_succ]
  refine WL.val (by kernel_rfl) v6 (by go_simp) ?_
  simp only [Act.put, List.setIfInBounds_toArray, List.set_cons_zero, List.set_cons_succ]
  refine WL.nil ?_
  refine hK4 _ _ ?_
  clear hK4 K4
  have hG5 : Grown w4 w5 fun k => v5.ownBlock = some k := Grown.of hg fun k _ e => e
  have H2d := Keep.mk (hG5.blk H2c.out (fun e => ownsH_ne HOc.out H2c.out (by decide) e))
  have HRb4 := Keep.mk (HRb3.out.grown hG5 (fun b hb hlb e => by have := HBB.out b hb; have := (hlt6 b e).1; omega))
  have HBd := Keep.mk (HBc.out.trans (hG5.to_below (fun k hk e => by have := (hlt6 k e).1; omega) HBc.out.size))
  obtain ⟨G, hG⟩ : ∃ G, Keep (G = L ++ [y]) := ⟨_, ⟨rfl⟩⟩
  rw [← hG.out] at hO
  have HRG := Keep.mk (HRow.of_owns hO)
  have HGl : Keep (0 < G.length ∧ G.length ≤ 4398046511104) := ⟨by rw [hG.out]; have := Hl.out; simp; omega⟩
  obtain ⟨ga6, gc, hv6⟩ := HRG.out.form
  rw [hv6] at HRG
  obtain ⟨gb, go, rfl, -, -, -⟩ := HRG.out.at HGl.out.1
  have hc0 : w5.cell? ⟨g2, 0, none⟩ = some (.int .u64 s) := by rw [H2d.out.cell]; exact HA2.out.1
  obtain ⟨NN, hNN⟩ : ∃ NN, Keep (NN = G.length) := ⟨_, ⟨rfl⟩⟩
  rw [← hNN.out] at HRG HGl hv6
  have hN1 : (1 : Int) ≤ NN := by have := HGl.out; omega
  have hN2 : (NN : Int) ≤ 4398046511104 := by have := HGl.out; omega
  rw [hv6]
  clear hO hg hG5 H2c HRb3 HBc HOc hlt6 HOR hg1 hga HN2
  obtain ⟨d, hd⟩ : ∃ d, Keep (d = digL s G) := ⟨_, ⟨rfl⟩⟩
  obtain ⟨n, hn⟩ : ∃ n, Keep (n = szN NN) := ⟨_, ⟨rfl⟩⟩
  have HDl : Keep (d.length = n) := ⟨by rw [hd.out, digL_len, hn.out, hNN.out]⟩
  have HPn : Keep (isP (n : Int) = true) := ⟨by rw [hn.out]; exact isP_sz NN⟩
  have hnr : 8 ≤ n ∧ n ≤ 8192 := by rw [hn.out]; exact szN_rng NN
  have HDb : Keep (Byts d) := ⟨by rw [hd.out]; exact digL_byts s G⟩
  have HPop : Keep (1 ≤ popU d d.length ∧ popU d d.length ≤ 4 * (NN : Int)) := ⟨by rw [hd.out, hNN.out]; exact digL_pop s G (by rw [← hNN.out]; exact HGl.out.1)⟩
  have HOF := Keep.mk (Of_any s G _ w5 HSs.out HRG.out (by rw [← hNN.out]; exact HGl.out.2))
  rw [← hd.out] at HOF
  have HSZ : Keep (∀ wx, Calls Try.prog 8 #[.int .i64 (NN : Int)] wx fun e w' => e = .returned (.int .i64 (n : Int)) ∧ w' = wx) := ⟨fun wx => by rw [hn.out]; exact size_any NN wx⟩
  go_wp2_with fail
  refine HOF.out.mono ?_
  rintro e w6 ⟨v7, rfl, hF⟩
  have HR6 := Keep.mk (HRG.out.below hF.2.2)
  have H26 := Keep.mk (H2d.out.below hF.2.2 H2d.out.lt)
  have HRb6 := Keep.mk (HRb4.out.below hF.2.2)
  have HB6 := Keep.mk (HBd.out.trans (hF.2.2.mono HBd.out.size))
  have HD6 := Keep.mk hF.1.row
  clear hF HOF HRG H2d HRb4 HBd hc0
  obtain ⟨da, dc, hv7⟩ := row_form HD6.out
  rw [HDl.out] at hv7
  rw [hv7] at HD6 ⊢
  obtain ⟨C, hC⟩ : ∃ C, Keep (C = popU d d.length) := ⟨_, ⟨rfl⟩⟩
  have HRT := Keep.mk (right_any _ d w6 HD6.out)
  have HCT := Keep.mk (count_any _ d w6 HD6.out HDb.out (by rw [HDl.out]; omega))
  rw [HDl.out, HPn.out] at HRT
  rw [← hC.out] at HCT HPop
  have hC1 : ¬ C < 1 := by have := HPop.out; omega
  have hC2 : ¬ C > 4 * (NN : Int) := by have := HPop.out; omega
  have hw4 : IntKind.i64.wrap (4 * (NN : Int)) = 4 * (NN : Int) := by rw [IntKind.wrap_i64]; omega
  clear HPop
  go_wp2_with (first | (go_at_call 6; refine HRT.out.mono ?_; rintro e w' ⟨rfl, rfl⟩) | (go_at_call 7; refine HCT.out.mono ?_; rintro e w' ⟨rfl, rfl⟩) | (go_at_call 8; refine (HSZ.out _).mono ?_; rintro e w' ⟨rfl, rfl⟩))
  clear HRT HCT HSZ hC1 hC2 hw4 hC
  obtain ⟨w6, rfl⟩ : ∃ w6, w6 = w' := ⟨_, rfl⟩
  have HJ1 : Keep (∀ wx, RowAt wx (.slice da n dc) d → RowAt wx vb lb → Calls Try.prog 9 #[.slice da n dc, .slice ba M bc] wx (JoinPost d lb wx)) := ⟨fun wx h1 h2 => by have := join_any _ vb d lb wx h1 h2 (by rw [← hM.out]; omega); rwa [Hvb.out] at this⟩
  have HJ2 : Keep (∀ wx, RowAt wx (.slice da n dc) d → RowAt wx vb lb → Calls Try.prog 9 #[.slice ba M bc, .slice da n dc] wx (JoinPost lb d wx)) := ⟨fun wx h1 h2 => by have := join_any vb _ lb d wx h2 h1 (by rw [HDl.out]; omega); rwa [Hvb.out] at this⟩
  have HHAS : Keep (∀ (row : List Int) (vr : Value) (x : Hs) (ch : Array Value) (wx : World), ch = bytesA 32 x.f → RowAt wx vr row → Byts row → row.length = n → hasB s row x = true → Calls Try.prog 10 #[.int .u64 s, vr, .agg ch] wx fun e w' => e = .returned (.tuple #[.bool true, .int .i64 0]) ∧ Below wx.heap.size wx w') := ⟨fun row vr x ch wx hch h1 h2 h3 h4 => by
    rw [hch]
    have := has_any s vr row x wx HSs.out h1 h2
    unfold HasPost at this
    rw [h3, HPn.out, h4] at this
    exact this⟩
  have HDH : Keep (∀ t, t < NN → hasB s d (G.getD t default) = true) := ⟨fun t ht => by rw [hd.out]; exact digL_has s G t (by rw [← hNN.out]; exact ht)⟩
  refine (HJ1.out _ HD6.out HRb6.out).mono ?_
  rintro e w7 ⟨v10, rfl, hn7⟩
  have HR7 := Keep.mk (HR6.out.below hn7.2.2)
  have H27 := Keep.mk (H26.out.below hn7.2.2 H26.out.lt)
  have HRb7 := Keep.mk (HRb6.out.below hn7.2.2)
  have HB7 := Keep.mk (HB6.out.trans (hn7.2.2.mono HB6.out.size))
  have HD7 := Keep.mk (HD6.out.below hn7.2.2)
  have HX7 := Keep.mk hn7.1.row
  clear hn7 HR6 H26 HRb6 HB6 HD6 HJ1
  obtain ⟨E, hE⟩ : ∃ E : Int, Keep (E = if okJ d lb = true then 0 else 60) := ⟨_, ⟨rfl⟩⟩
  rw [← hE.out]
  have hokd : okJ d lb = decide (n = M) := by unfold okJ; rw [HDl.out, HPn.out, ← hM.out]; exact Bool.eq_iff_iff.2 (by simp)
  have hokb : okJ lb d = decide (n = M) := by
    unfold okJ; rw [HDl.out, ← hM.out]
    by_cases h : n = M
    · rw [← h, HPn.out]; exact Bool.eq_iff_iff.2 (by simp)
    · exact Bool.eq_iff_iff.2 (by simp [h, Ne.symm h])
  have HE2 : Keep ((if okJ lb d = true then (0 : Int) else 60) = E) := ⟨by rw [hE.out, hokd, hokb]⟩
  go_wp2_with fail
  refine (HJ2.out _ HD7.out HRb7.out).mono ?_
  rintro e w8 ⟨v12, rfl, hn8⟩
  rw [HE2.out]
  have HR8 := Keep.mk (HR7.out.below hn8.2.2)
  have H28 := Keep.mk (H27.out.below hn8.2.2 H27.out.lt)
  have HB8 := Keep.mk (HB7.out.trans (hn8.2.2.mono HB7.out.size))
  have HD8 := Keep.mk (HD7.out.below hn8.2.2)
  have HX8 := Keep.mk (HX7.out.below hn8.2.2)
  have HY8 := Keep.mk hn8.1.row
  clear hn8 HR7 H27 HRb7 HB7 HD7 HX7 HJ2 HE2
  by_cases hnm : n = M
  · have hE0 : E = 0 := by rw [hE.out, hokd]; simp [hnm]
    have hjl : joinL d lb = orL d lb := by unfold joinL; rw [hokd]; simp [hnm]
    have hkl : joinL lb d = orL lb d := by unfold joinL; rw [hokb]; simp [hnm]
    rw [hjl] at HX8
    rw [hkl] at HY8
    obtain ⟨ja, jc, hv10⟩ := row_form HX8.out
    obtain ⟨ka, kc, hv12⟩ := row_form HY8.out
    rw [orL_len, HDl.out] at hv10
    rw [orL_len, ← hM.out, ← hnm] at hv12
    obtain ⟨J, hJ⟩ : ∃ J, Keep (J = orL d lb) := ⟨_, ⟨rfl⟩⟩
    obtain ⟨KJ, hKK⟩ : ∃ KJ, Keep (KJ = orL lb d) := ⟨_, ⟨rfl⟩⟩
    have HJl : Keep (J.length = n ∧ KJ.length = n) := ⟨by rw [hJ.out, hKK.out, orL_len, orL_len, HDl.out, ← hM.out]; exact ⟨rfl, hnm.symm⟩⟩
    have HJb : Keep (Byts J ∧ Byts KJ) := ⟨by rw [hJ.out, hKK.out]; exact ⟨orL_byts HDb.out HBy.out, orL_byts HBy.out HDb.out⟩⟩
    have HJH : Keep (∀ t, t < NN → hasB s J (G.getD t default) = true ∧ hasB s KJ (G.getD t default) = true) := ⟨fun t ht => by
      have := or_has HDb.out HBy.out (by rw [HDl.out]; exact hnr.1) (HDH.out t ht)
      rw [hJ.out, hKK.out]
      exact ⟨this.1, this.2 (by rw [HDl.out, ← hM.out]; exact hnm.symm)⟩⟩
    rw [← hJ.out] at HX8
    rw [← hKK.out] at HY8
    rw [hv10, hv12, hE0]
    rw [hv10] at HX8
    rw [hv12] at HY8
    have HL0 : Keep (LS w g2 ca (.slice (some ⟨gb, go, none⟩) NN gc) (.slice da n dc) (.slice ja n jc) (.slice ka n kc) G d J KJ w8) := ⟨⟨H28.out, HR8.out, HD8.out, HX8.out, HY8.out, HB8.out⟩⟩
    rw [← hnm]
    clear hokd hokb hjl hkl hE0 hE hnm hv10 hv12 H28 HR8 HD8 HX8 HY8 HB8 hMb
    go_wp2_with fail
    go_loopw [14] (fun i wr => ∃ t : Nat, t ≤ NN ∧ i = .int .i64 t ∧ LS w g2 ca (.slice (some ⟨gb, go, none⟩) NN gc) (.slice da n dc) (.slice ja n jc) (.slice ka n kc) G d J KJ wr) (fun i _ => NN - (intOf i).toNat)
    case atStart => exact ⟨0, by omega, rfl, HL0.out⟩
    case round =>
      clear HL0
      obtain ⟨t, ht, rfl, hL⟩ := hrel
      by_cases hlt : t < NN
      · have hlt' : (t : Int) < NN := by omega
        have HL := Keep.mk hL
        clear hL
        obtain ⟨x, hx⟩ : ∃ x, Keep (x = G.getD t default) := ⟨_, ⟨rfl⟩⟩
        obtain ⟨ch, Hch⟩ : ∃ ch, Keep (ch = bytesA 32 x.f) := ⟨_, ⟨rfl⟩⟩
        have hCA : (encH x).toArray = ch := by rw [Hch.out]; exact encH_arr x
        have hiH : (Try.prog.info? 25).map (·.size) = some (encH x).length := Try.size25L x
        have hu := Try.underlying25
        have HSC : Keep (∀ wx, LS w g2 ca (.slice (some ⟨gb, go, none⟩) NN gc) (.slice da n dc) (.slice ja n jc) (.slice ka n kc) G d J KJ wx → wx.cell? ⟨g2, 0, none⟩ = some (.int .u64 s)) := ⟨fun wx h => by rw [h.g.cell]; exact HA2.out.1⟩
        have HHX : Keep (∀ wx, LS w g2 ca (.slice (some ⟨gb, go, none⟩) NN gc) (.slice da n dc) (.slice ja n jc) (.slice ka n kc) G d J KJ wx → wx.rangeAt gb (go + t * 32) (encH x)) := ⟨fun wx h => hash_at' h.r (by rw [← hNN.out]; exact hlt) hx.out⟩
        have HXH := Keep.mk (HDH.out t hlt)
        rw [← hx.out] at HXH
        have HXJ := Keep.mk (HJH.out t hlt)
        rw [← hx.out] at HXJ
        go_wp2_with fail
        refine wp_region_held_drew (S := fun wx => LS w g2 ca (.slice (some ⟨gb, go, none⟩) NN gc) (.slice da n dc) (.slice ja n jc) (.slice ka n kc) G d J KJ wx) (by kernel_rfl) (HL.out.more (Below.refl _ _).drew) (fun hHeld => ?_)
        have HLd := Keep.mk (HL.out.more (Below.refl _ _).drew)
        clear HL
        generalize wr.drew = wd at *
        refine wpAnyH_take (i := 0) (oi := ⟨some 96, Op.fieldAddr 27 (Operand.tmp 2) 0, 0, _, _, none⟩) (v := .pointer (some ⟨g2, 0, none⟩)) rfl (by kernel_rfl) (by kernel_rfl) (by kernel_rfl) (fun _ _ _ h => h) (Or.inl ⟨by rfl, fun w hS => by go_simp⟩) hHeld ?_
        simp only [Act.put, List.setIfInBounds_toArray, List.set_cons_zero, List.set_cons_succ]
        refine wpAnyH_take (i := 1) (oi := ⟨some 97, Op.load 22 (Operand.tmp 96), 22, _, _, none⟩) (v := .int .u64 s) rfl (by kernel_rfl) (by kernel_rfl) (by kernel_rfl) (fun _ _ _ h => h) (Or.inl ⟨by rfl, fun w hS => by have h1 := HSC.out _ hS; go_simp⟩) hHeld ?_
        simp only [Act.put, List.setIfInBounds_toArray, List.set_cons_zero, List.set_cons_succ]
        refine wpAnyH_take (i := 2) (oi := ⟨some 98, Op.move (Operand.tmp 7), 28, _, _, none⟩) (v := (.slice da n dc)) rfl (by kernel_rfl) (by kernel_rfl) (by kernel_rfl) (fun _ _ _ h => h) (Or.inl ⟨by rfl, fun w hS => by go_simp⟩) hHeld ?_
        simp only [Act.put, List.setIfInBounds_toArray, List.set_cons_zero, List.set_cons_succ]
        refine wpAnyH_take (i := 3) (oi := ⟨some 99, Op.move (Operand.tmp 6), 23, _, _, none⟩) (v := .slice (some ⟨gb, go, none⟩) NN gc) rfl (by kernel_rfl) (by kernel_rfl) (by kernel_rfl) (fun _ _ _ h => h) (Or.inl ⟨by rfl, fun w hS => by go_simp⟩) hHeld ?_
        simp only [Act.put, List.setIfInBounds_toArray, List.set_cons_zero, List.set_cons_succ]
        refine wpAnyH_take (i := 4) (oi := ⟨some 100, Op.move (Operand.tmp 14), 3, _, _, none⟩) (v := .int .i64 (t : Int)) rfl (by kernel_rfl) (by kernel_rfl) (by kernel_rfl) (fun _ _ _ h => h) (Or.inl ⟨by rfl, fun w hS => by go_simp⟩) hHeld ?_
        simp only [Act.put, List.setIfInBounds_toArray, List.set_cons_zero, List.set_cons_succ]
        refine wpAnyH_take (i := 5) (oi := ⟨some 101, Op.indexAddr 23 (Operand.tmp 99) (Operand.tmp 100), 0, _, _, none⟩) (v := .pointer (some ⟨gb, go + t * 32, none⟩)) rfl (by kernel_rfl) (by kernel_rfl) (by kernel_rfl) (fun _ _ _ h => h) (Or.inl ⟨by rfl, fun w hS => by go_simp⟩) hHeld ?_
        simp only [Act.put, List.setIfInBounds_toArray, List.set_cons_zero, List.set_cons_succ]
        refine wpAnyH_take (i := 6) (oi := ⟨some 102, Op.load 25 (Operand.tmp 101), 25, _, _, none⟩) (v := .agg (encH x).toArray) rfl (by kernel_rfl) (by kernel_rfl) (by kernel_rfl) (fun _ _ _ h => h) (yieldsIf_load_mid (by rfl) 25 (Operand.tmp 101) rfl gb (go + t * 32) rfl (encH x) _ (fun w hS => (HHX.out _ hS)) hu rfl hiH) hHeld ?_
        simp only [Act.put, List.setIfInBounds_toArray, List.set_cons_zero, List.set_cons_succ]
        rw [hCA]
        refine wpAnyH_ready (rs := [7]) (by kernel_rfl) (by simp) ?_
        refine AllReadyH.cons (o := ⟨some 103, Op.call { callee := Callee.value (Operand.func 10), args := #[Operand.tmp 97, Operand.tmp 98, Operand.tmp 102], argTypes := #[22, 28, 25] }, 37, _, _, none⟩) rfl (fun K hK => ?_) (AllReadyH.nil)
        all_goals rw [if_pos (by rfl)]
        refine wp_callF 10 _ _ rfl Try.lin10 #[.int .u64 s, (.slice da n dc), .agg ch] (by simp [Act.eval]) (fun vz wz => vz = .tuple #[.bool true, .int .i64 0] ∧ Below wd.heap.size wd wz) ?_ ?_
        · refine (HHAS.out d (.slice da n dc) x ch wd Hch.out HLd.out.d HDb.out HDl.out HXH.out).mono ?_
          rintro e wz ⟨rfl, hbz⟩
          exact ⟨_, rfl, rfl, hbz⟩
        rintro vz w9 ⟨rfl, hb⟩
        have HL := Keep.mk (HLd.out.more hb)
        refine hK.out _ _ HL.out fun hHeld => ?_
        clear hK HLd hb
        simp only [Act.put, List.setIfInBounds_toArray, List.set_cons_zero, List.set_cons_succ]
        refine wpAnyH_take (i := 8) (oi := ⟨some 95, Op.move (Operand.tmp 103), 37, _, _, none⟩) (v := .tuple #[.bool true, .int .i64 0]) rfl (by kernel_rfl) (by kernel_rfl) (by kernel_rfl) (fun _ _ _ h => h) (Or.inl ⟨by rfl, fun w hS => by go_simp⟩) hHeld ?_
        simp only [Act.put, List.setIfInBounds_toArray, List.set_cons_zero, List.set_cons_succ]
        refine wpAnyH_take (i := 9) (oi := ⟨some 104, Op.extract (Operand.tmp 95) 0, 4, _, _, none⟩) (v := .bool true) rfl (by kernel_rfl) (by kernel_rfl) (by kernel_rfl) (fun _ _ _ h => h) (Or.inl ⟨by rfl, fun w hS => by go_simp⟩) hHeld ?_
        simp only [Act.put, List.setIfInBounds_toArray, List.set_cons_zero, List.set_cons_succ]
        refine wpAnyH_take (i := 10) (oi := ⟨some 105, Op.extract (Operand.tmp 95) 1, 34, _, _, none⟩) (v := .int .i64 0) rfl (by kernel_rfl) (by kernel_rfl) (by kernel_rfl) (fun _ _ _ h => h) (Or.inl ⟨by rfl, fun w hS => by go_simp⟩) hHeld ?_
        simp only [Act.put, List.setIfInBounds_toArray, List.set_cons_zero, List.set_cons_succ]
        refine wpAnyH_take (i := 11) (oi := ⟨some 15, Op.assign (Operand.tmp 104), 4, _, _, none⟩) (v := .bool true) rfl (by kernel_rfl) (by kernel_rfl) (by kernel_rfl) (fun _ _ _ h => h) (Or.inl ⟨by rfl, fun w hS => by go_simp⟩) hHeld ?_
        simp only [Act.put, List.setIfInBounds_toArray, List.set_cons_zero, List.set_cons_succ]
        refine wpAnyH_take (i := 12) (oi := ⟨some 16, Op.assign (Operand.tmp 105), 34, _, _, none⟩) (v := .int .i64 0) rfl (by kernel_rfl) (by kernel_rfl) (by kernel_rfl) (fun _ _ _ h => h) (Or.inl ⟨by rfl, fun w hS => by go_simp⟩) hHeld ?_
        simp only [Act.put, List.setIfInBounds_toArray, List.set_cons_zero, List.set_cons_succ]
        refine wpAnyH_done (by kernel_rfl) ?_ _
        clear hHeld
        go_wp2_with fail
        refine wp_region_held_drew (S := fun wx => LS w g2 ca (.slice (some ⟨gb, go, none⟩) NN gc) (.slice da n dc) (.slice ja n jc) (.slice ka n kc) G d J KJ wx) (by kernel_rfl) (HL.out.more (Below.refl _ _).drew) (fun hHeld => ?_)
        have HLd := Keep.mk (HL.out.more (Below.refl _ _).drew)
        clear HL
        generalize w9.drew = wd at *
        refine wpAnyH_take (i := 0) (oi := ⟨some 115, Op.fieldAddr 27 (Operand.tmp 2) 0, 0, _, _, none⟩) (v := .pointer (some ⟨g2, 0, none⟩)) rfl (by kernel_rfl) (by kernel_rfl) (by kernel_rfl) (fun _ _ _ h => h) (Or.inl ⟨by rfl, fun w hS => by go_simp⟩) hHeld ?_
        simp only [Act.put, List.setIfInBounds_toArray, List.set_cons_zero, List.set_cons_succ]
        refine wpAnyH_take (i := 1) (oi := ⟨some 116, Op.load 22 (Operand.tmp 115), 22, _, _, none⟩) (v := .int .u64 s) rfl (by kernel_rfl) (by kernel_rfl) (by kernel_rfl) (fun _ _ _ h => h) (Or.inl ⟨by rfl, fun w hS => by have h1 := HSC.out _ hS; go_simp⟩) hHeld ?_
        simp only [Act.put, List.setIfInBounds_toArray, List.set_cons_zero, List.set_cons_succ]
        refine wpAnyH_take (i := 2) (oi := ⟨some 117, Op.move (Operand.tmp 10), 28, _, _, none⟩) (v := (.slice ja n jc)) rfl (by kernel_rfl) (by kernel_rfl) (by kernel_rfl) (fun _ _ _ h => h) (Or.inl ⟨by rfl, fun w hS => by go_simp⟩) hHeld ?_
        simp only [Act.put, List.setIfInBounds_toArray, List.set_cons_zero, List.set_cons_succ]
        refine wpAnyH_take (i := 3) (oi := ⟨some 118, Op.move (Operand.tmp 6), 23, _, _, none⟩) (v := .slice (some ⟨gb, go, none⟩) NN gc) rfl (by kernel_rfl) (by kernel_rfl) (by kernel_rfl) (fun _ _ _ h => h) (Or.inl ⟨by rfl, fun w hS => by go_simp⟩) hHeld ?_
        simp only [Act.put, List.setIfInBounds_toArray, List.set_cons_zero, List.set_cons_succ]
        refine wpAnyH_take (i := 4) (oi := ⟨some 119, Op.move (Operand.tmp 14), 3, _, _, none⟩) (v := .int .i64 (t : Int)) rfl (by kernel_rfl) (by kernel_rfl) (by kernel_rfl) (fun _ _ _ h => h) (Or.inl ⟨by rfl, fun w hS => by go_simp⟩) hHeld ?_
        simp only [Act.put, List.setIfInBounds_toArray, List.set_cons_zero, List.set_cons_succ]
        refine wpAnyH_take (i := 5) (oi := ⟨some 120, Op.indexAddr 23 (Operand.tmp 118) (Operand.tmp 119), 0, _, _, none⟩) (v := .pointer (some ⟨gb, go + t * 32, none⟩)) rfl (by kernel_rfl) (by kernel_rfl) (by kernel_rfl) (fun _ _ _ h => h) (Or.inl ⟨by rfl, fun w hS => by go_simp⟩) hHeld ?_
        simp only [Act.put, List.setIfInBounds_toArray, List.set_cons_zero, List.set_cons_succ]
        refine wpAnyH_take (i := 6) (oi := ⟨some 121, Op.load 25 (Operand.tmp 120), 25, _, _, none⟩) (v := .agg (encH x).toArray) rfl (by kernel_rfl) (by kernel_rfl) (by kernel_rfl) (fun _ _ _ h => h) (yieldsIf_load_mid (by rfl) 25 (Operand.tmp 120) rfl gb (go + t * 32) rfl (encH x) _ (fun w hS => (HHX.out _ hS)) hu rfl hiH) hHeld ?_
        simp only [Act.put, List.setIfInBounds_toArray, List.set_cons_zero, List.set_cons_succ]
        rw [hCA]
        refine wpAnyH_ready (rs := [7]) (by kernel_rfl) (by simp) ?_
        refine AllReadyH.cons (o := ⟨some 122, Op.call { callee := Callee.value (Operand.func 10), args := #[Operand.tmp 116, Operand.tmp 117, Operand.tmp 121], argTypes := #[22, 28, 25] }, 37, _, _, none⟩) rfl (fun K hK => ?_) (AllReadyH.nil)
        all_goals rw [if_pos (by rfl)]
        refine wp_callF 10 _ _ rfl Try.lin10 #[.int .u64 s, (.slice ja n jc), .agg ch] (by simp [Act.eval]) (fun vz wz => vz = .tuple #[.bool true, .int .i64 0] ∧ Below wd.heap.size wd wz) ?_ ?_
        · refine (HHAS.out J (.slice ja n jc) x ch wd Hch.out HLd.out.j HJb.out.1 HJl.out.1 HXJ.out.1).mono ?_
          rintro e wz ⟨rfl, hbz⟩
          exact ⟨_, rfl, rfl, hbz⟩
        rintro vz w10 ⟨rfl, hb⟩
        have HL := Keep.mk (HLd.out.more hb)
        refine hK.out _ _ HL.out fun hHeld => ?_
        clear hK HLd hb
        simp only [Act.put, List.setIfInBounds_toArray, List.set_cons_zero, List.set_cons_succ]
        refine wpAnyH_take (i := 8) (oi := ⟨some 114, Op.move (Operand.tmp 122), 37, _, _, none⟩) (v := .tuple #[.bool true, .int .i64 0]) rfl (by kernel_rfl) (by kernel_rfl) (by kernel_rfl) (fun _ _ _ h => h) (Or.inl ⟨by rfl, fun w hS => by go_simp⟩) hHeld ?_
        simp only [Act.put, List.setIfInBounds_toArray, List.set_cons_zero, List.set_cons_succ]
        refine wpAnyH_take (i := 9) (oi := ⟨some 123, Op.extract (Operand.tmp 114) 0, 4, _, _, none⟩) (v := .bool true) rfl (by kernel_rfl) (by kernel_rfl) (by kernel_rfl) (fun _ _ _ h => h) (Or.inl ⟨by rfl, fun w hS => by go_simp⟩) hHeld ?_
        simp only [Act.put, List.setIfInBounds_toArray, List.set_cons_zero, List.set_cons_succ]
        refine wpAnyH_take (i := 10) (oi := ⟨some 124, Op.extract (Operand.tmp 114) 1, 34, _, _, none⟩) (v := .int .i64 0) rfl (by kernel_rfl) (by kernel_rfl) (by kernel_rfl) (fun _ _ _ h => h) (Or.inl ⟨by rfl, fun w hS => by go_simp⟩) hHeld ?_
        simp only [Act.put, List.setIfInBounds_toArray, List.set_cons_zero, List.set_cons_succ]
        refine wpAnyH_take (i := 11) (oi := ⟨some 17, Op.assign (Operand.tmp 123), 4, _, _, none⟩) (v := .bool true) rfl (by kernel_rfl) (by kernel_rfl) (by kernel_rfl) (fun _ _ _ h => h) (Or.inl ⟨by rfl, fun w hS => by go_simp⟩) hHeld ?_
        simp only [Act.put, List.setIfInBounds_toArray, List.set_cons_zero, List.set_cons_succ]
        refine wpAnyH_take (i := 12) (oi := ⟨some 18, Op.assign (Operand.tmp 124), 34, _, _, none⟩) (v := .int .i64 0) rfl (by kernel_rfl) (by kernel_rfl) (by kernel_rfl) (fun _ _ _ h => h) (Or.inl ⟨by rfl, fun w hS => by go_simp⟩) hHeld ?_
        simp only [Act.put, List.setIfInBounds_toArray, List.set_cons_zero, List.set_cons_succ]
        refine wpAnyH_done (by kernel_rfl) ?_ _
        clear hHeld
        go_wp2_with fail
        refine wp_region_held_drew (S := fun wx => LS w g2 ca (.slice (some ⟨gb, go, none⟩) NN gc) (.slice da n dc) (.slice ja n jc) (.slice ka n kc) G d J KJ wx) (by kernel_rfl) (HL.out.more (Below.refl _ _).drew) (fun hHeld => ?_)
        have HLd := Keep.mk (HL.out.more (Below.refl _ _).drew)
        clear HL
        generalize w10.drew = wd at *
        refine wpAnyH_take (i := 0) (oi := ⟨some 126, Op.fieldAddr 27 (Operand.tmp 2) 0, 0, _, _, none⟩) (v := .pointer (some ⟨g2, 0, none⟩)) rfl (by kernel_rfl) (by kernel_rfl) (by kernel_rfl) (fun _ _ _ h => h) (Or.inl ⟨by rfl, fun w hS => by go_simp⟩) hHeld ?_
        simp only [Act.put, List.setIfInBounds_toArray, List.set_cons_zero, List.set_cons_succ]
        refine wpAnyH_take (i := 1) (oi := ⟨some 127, Op.load 22 (Operand.tmp 126), 22, _, _, none⟩) (v := .int .u64 s) rfl (by kernel_rfl) (by kernel_rfl) (by kernel_rfl) (fun _ _ _ h => h) (Or.inl ⟨by rfl, fun w hS => by have h1 := HSC.out _ hS; go_simp⟩) hHeld ?_
        simp only [Act.put, List.setIfInBounds_toArray, List.set_cons_zero, List.set_cons_succ]
        refine wpAnyH_take (i := 2) (oi := ⟨some 128, Op.move (Operand.tmp 12), 28, _, _, none⟩) (v := (.slice ka n kc)) rfl (by kernel_rfl) (by kernel_rfl) (by kernel_rfl) (fun _ _ _ h => h) (Or.inl ⟨by rfl, fun w hS => by go_simp⟩) hHeld ?_
        simp only [Act.put, List.setIfInBounds_toArray, List.set_cons_zero, List.set_cons_succ]
        refine wpAnyH_take (i := 3) (oi := ⟨some 129, Op.move (Operand.tmp 6), 23, _, _, none⟩) (v := .slice (some ⟨gb, go, none⟩) NN gc) rfl (by kernel_rfl) (by kernel_rfl) (by kernel_rfl) (fun _ _ _ h => h) (Or.inl ⟨by rfl, fun w hS => by go_simp⟩) hHeld ?_
        simp only [Act.put, List.setIfInBounds_toArray, List.set_cons_zero, List.set_cons_succ]
        refine wpAnyH_take (i := 4) (oi := ⟨some 130, Op.move (Operand.tmp 14), 3, _, _, none⟩) (v := .int .i64 (t : Int)) rfl (by kernel_rfl) (by kernel_rfl) (by kernel_rfl) (fun _ _ _ h => h) (Or.inl ⟨by rfl, fun w hS => by go_simp⟩) hHeld ?_
        simp only [Act.put, List.setIfInBounds_toArray, List.set_cons_zero, List.set_cons_succ]
        refine wpAnyH_take (i := 5) (oi := ⟨some 131, Op.indexAddr 23 (Operand.tmp 129) (Operand.tmp 130), 0, _, _, none⟩) (v := .pointer (some ⟨gb, go + t * 32, none⟩)) rfl (by kernel_rfl) (by kernel_rfl) (by kernel_rfl) (fun _ _ _ h => h) (Or.inl ⟨by rfl, fun w hS => by go_simp⟩) hHeld ?_
        simp only [Act.put, List.setIfInBounds_toArray, List.set_cons_zero, List.set_cons_succ]
        refine wpAnyH_take (i := 6) (oi := ⟨some 132, Op.load 25 (Operand.tmp 131), 25, _, _, none⟩) (v := .agg (encH x).toArray) rfl (by kernel_rfl) (by kernel_rfl) (by kernel_rfl) (fun _ _ _ h => h) (yieldsIf_load_mid (by rfl) 25 (Operand.tmp 131) rfl gb (go + t * 32) rfl (encH x) _ (fun w hS => (HHX.out _ hS)) hu rfl hiH) hHeld ?_
        simp only [Act.put, List.setIfInBounds_toArray, List.set_cons_zero, List.set_cons_succ]
        rw [hCA]
        refine wpAnyH_ready (rs := [7]) (by kernel_rfl) (by simp) ?_
        refine AllReadyH.cons (o := ⟨some 133, Op.call { callee := Callee.value (Operand.func 10), args := #[Operand.tmp 127, Operand.tmp 128, Operand.tmp 132], argTypes := #[22, 28, 25] }, 37, _, _, none⟩) rfl (fun K hK => ?_) (AllReadyH.nil)
        all_goals rw [if_pos (by rfl)]
        refine wp_callF 10 _ _ rfl Try.lin10 #[.int .u64 s, (.slice ka n kc), .agg ch] (by simp [Act.eval]) (fun vz wz => vz = .tuple #[.bool true, .int .i64 0] ∧ Below wd.heap.size wd wz) ?_ ?_
        · refine (HHAS.out KJ (.slice ka n kc) x ch wd Hch.out HLd.out.k HJb.out.2 HJl.out.2 HXJ.out.2).mono ?_
          rintro e wz ⟨rfl, hbz⟩
          exact ⟨_, rfl, rfl, hbz⟩
        rintro vz w11 ⟨rfl, hb⟩
        have HL := Keep.mk (HLd.out.more hb)
        refine hK.out _ _ HL.out fun hHeld => ?_
        clear hK HLd hb
        simp only [Act.put, List.setIfInBounds_toArray, List.set_cons_zero, List.set_cons_succ]
        refine wpAnyH_take (i := 8) (oi := ⟨some 125, Op.move (Operand.tmp 133), 37, _, _, none⟩) (v := .tuple #[.bool true, .int .i64 0]) rfl (by kernel_rfl) (by kernel_rfl) (by kernel_rfl) (fun _ _ _ h => h) (Or.inl ⟨by rfl, fun w hS => by go_simp⟩) hHeld ?_
        simp only [Act.put, List.setIfInBounds_toArray, List.set_cons_zero, List.set_cons_succ]
        refine wpAnyH_take (i := 9) (oi := ⟨some 134, Op.extract (Operand.tmp 125) 0, 4, _, _, none⟩) (v := .bool true) rfl (by kernel_rfl) (by kernel_rfl) (by kernel_rfl) (fun _ _ _ h => h) (Or.inl ⟨by rfl, fun w hS => by go_simp⟩) hHeld ?_
        simp only [Act.put, List.setIfInBounds_toArray, List.set_cons_zero, List.set_cons_succ]
        refine wpAnyH_take (i := 10) (oi := ⟨some 135, Op.extract (Operand.tmp 125) 1, 34, _, _, none⟩) (v := .int .i64 0) rfl (by kernel_rfl) (by kernel_rfl) (by kernel_rfl) (fun _ _ _ h => h) (Or.inl ⟨by rfl, fun w hS => by go_simp⟩) hHeld ?_
        simp only [Act.put, List.setIfInBounds_toArray, List.set_cons_zero, List.set_cons_succ]
        refine wpAnyH_take (i := 11) (oi := ⟨some 19, Op.assign (Operand.tmp 134), 4, _, _, none⟩) (v := .bool true) rfl (by kernel_rfl) (by kernel_rfl) (by kernel_rfl) (fun _ _ _ h => h) (Or.inl ⟨by rfl, fun w hS => by go_simp⟩) hHeld ?_
        simp only [Act.put, List.setIfInBounds_toArray, List.set_cons_zero, List.set_cons_succ]
        refine wpAnyH_take (i := 12) (oi := ⟨some 20, Op.assign (Operand.tmp 135), 34, _, _, none⟩) (v := .int .i64 0) rfl (by kernel_rfl) (by kernel_rfl) (by kernel_rfl) (fun _ _ _ h => h) (Or.inl ⟨by rfl, fun w hS => by go_simp⟩) hHeld ?_
        simp only [Act.put, List.setIfInBounds_toArray, List.set_cons_zero, List.set_cons_succ]
        refine wpAnyH_done (by kernel_rfl) ?_ _
        clear hHeld
        go_wp2
        go_roundw
        case rel => exact ⟨t + 1, by omega, by go_num, HL.out⟩
        case measure => simp only [intOf]; omega
      · obtain rfl : NN = t := by omega
        have HB := Keep.mk hL.B
        clear hL
        go_wp2
        go_ret
        exact ⟨rfl, HB.out⟩
  · have hE6 : E = 60 := by rw [hE.out, hokd]; simp [hnm]
    have hnm' : ¬ (M : Int) = (n : Int) := by omega
    obtain ⟨J, hJ⟩ : ∃ J, Keep (J = joinL d lb) := ⟨_, ⟨rfl⟩⟩
    obtain ⟨KJ, hKK⟩ : ∃ KJ, Keep (KJ = joinL lb d) := ⟨_, ⟨rfl⟩⟩
    rw [← hJ.out] at HX8
    rw [← hKK.out] at HY8
    rw [hE6]
    have HL0 : Keep (LS w g2 ca (.slice (some ⟨gb, go, none⟩) NN gc) (.slice da n dc) v10 v12 G d J KJ w8) := ⟨⟨H28.out, HR8.out, HD8.out, HX8.out, HY8.out, HB8.out⟩⟩
    clear hokd hokb hE6 hE hnm H28 HR8 HD8 HX8 HY8 HB8 hMb
    go_wp2_with fail
    go_loopw [14] (fun i wr => ∃ t : Nat, t ≤ NN ∧ i = .int .i64 t ∧ LS w g2 ca (.slice (some ⟨gb, go, none⟩) NN gc) (.slice da n dc) v10 v12 G d J KJ wr) (fun i _ => NN - (intOf i).toNat)
    case atStart => exact ⟨0, by omega, rfl, HL0.out⟩
    case round =>
      clear HL0
      obtain ⟨t, ht, rfl, hL⟩ := hrel
      by_cases hlt : t < NN
      · have hlt' : (t : Int) < NN := by omega
        have HL := Keep.mk hL
        clear hL
        obtain ⟨x, hx⟩ : ∃ x, Keep (x = G.getD t default) := ⟨_, ⟨rfl⟩⟩
        obtain ⟨ch, Hch⟩ : ∃ ch, Keep (ch = bytesA 32 x.f) := ⟨_, ⟨rfl⟩⟩
        have hCA : (encH x).toArray = ch := by rw [Hch.out]; exact encH_arr x
        have hiH : (Try.prog.info? 25).map (·.size) = some (encH x).length := Try.size25L x
        have hu := Try.underlying25
        have HSC : Keep (∀ wx, LS w g2 ca (.slice (some ⟨gb, go, none⟩) NN gc) (.slice da n dc) v10 v12 G d J KJ wx → wx.cell? ⟨g2, 0, none⟩ = some (.int .u64 s)) := ⟨fun wx h => by rw [h.g.cell]; exact HA2.out.1⟩
        have HHX : Keep (∀ wx, LS w g2 ca (.slice (some ⟨gb, go, none⟩) NN gc) (.slice da n dc) v10 v12 G d J KJ wx → wx.rangeAt gb (go + t * 32) (encH x)) := ⟨fun wx h => hash_at' h.r (by rw [← hNN.out]; exact hlt) hx.out⟩
        have HXH := Keep.mk (HDH.out t hlt)
        rw [← hx.out] at HXH
        go_wp2_with fail
        refine wp_region_held_drew (S := fun wx => LS w g2 ca (.slice (some ⟨gb, go, none⟩) NN gc) (.slice da n dc) v10 v12 G d J KJ wx) (by kernel_rfl) (HL.out.more (Below.refl _ _).drew) (fun hHeld => ?_)
        have HLd := Keep.mk (HL.out.more (Below.refl _ _).drew)
        clear HL
        generalize wr.drew = wd at *
        refine wpAnyH_take (i := 0) (oi := ⟨some 96, Op.fieldAddr 27 (Operand.tmp 2) 0, 0, _, _, none⟩) (v := .pointer (some ⟨g2, 0, none⟩)) rfl (by kernel_rfl) (by kernel_rfl) (by kernel_rfl) (fun _ _ _ h => h) (Or.inl ⟨by rfl, fun w hS => by go_simp⟩) hHeld ?_
        simp only [Act.put, List.setIfInBounds_toArray, List.set_cons_zero, List.set_cons_succ]
        refine wpAnyH_take (i := 1) (oi := ⟨some 97, Op.load 22 (Operand.tmp 96), 22, _, _, none⟩) (v := .int .u64 s) rfl (by kernel_rfl) (by kernel_rfl) (by kernel_rfl) (fun _ _ _ h => h) (Or.inl ⟨by rfl, fun w hS => by have h1 := HSC.out _ hS; go_simp⟩) hHeld ?_
        simp only [Act.put, List.setIfInBounds_toArray, List.set_cons_zero, List.set_cons_succ]
        refine wpAnyH_take (i := 2) (oi := ⟨some 98, Op.move (Operand.tmp 7), 28, _, _, none⟩) (v := (.slice da n dc)) rfl (by kernel_rfl) (by kernel_rfl) (by kernel_rfl) (fun _ _ _ h => h) (Or.inl ⟨by rfl, fun w hS => by go_simp⟩) hHeld ?_
        simp only [Act.put, List.setIfInBounds_toArray, List.set_cons_zero, List.set_cons_succ]
        refine wpAnyH_take (i := 3) (oi := ⟨some 99, Op.move (Operand.tmp 6), 23, _, _, none⟩) (v := .slice (some ⟨gb, go, none⟩) NN gc) rfl (by kernel_rfl) (by kernel_rfl) (by kernel_rfl) (fun _ _ _ h => h) (Or.inl ⟨by rfl, fun w hS => by go_simp⟩) hHeld ?_
        simp only [Act.put, List.setIfInBounds_toArray, List.set_cons_zero, List.set_cons_succ]
        refine wpAnyH_take (i := 4) (oi := ⟨some 100, Op.move (Operand.tmp 14), 3, _, _, none⟩) (v := .int .i64 (t : Int)) rfl (by kernel_rfl) (by kernel_rfl) (by kernel_rfl) (fun _ _ _ h => h) (Or.inl ⟨by rfl, fun w hS => by go_simp⟩) hHeld ?_
        simp only [Act.put, List.setIfInBounds_toArray, List.set_cons_zero, List.set_cons_succ]
        refine wpAnyH_take (i := 5) (oi := ⟨some 101, Op.indexAddr 23 (Operand.tmp 99) (Operand.tmp 100), 0, _, _, none⟩) (v := .pointer (some ⟨gb, go + t * 32, none⟩)) rfl (by kernel_rfl) (by kernel_rfl) (by kernel_rfl) (fun _ _ _ h => h) (Or.inl ⟨by rfl, fun w hS => by go_simp⟩) hHeld ?_
        simp only [Act.put, List.setIfInBounds_toArray, List.set_cons_zero, List.set_cons_succ]
        refine wpAnyH_take (i := 6) (oi := ⟨some 102, Op.load 25 (Operand.tmp 101), 25, _, _, none⟩) (v := .agg (encH x).toArray) rfl (by kernel_rfl) (by kernel_rfl) (by kernel_rfl) (fun _ _ _ h => h) (yieldsIf_load_mid (by rfl) 25 (Operand.tmp 101) rfl gb (go + t * 32) rfl (encH x) _ (fun w hS => (HHX.out _ hS)) hu rfl hiH) hHeld ?_
        simp only [Act.put, List.setIfInBounds_toArray, List.set_cons_zero, List.set_cons_succ]
        rw [hCA]
        refine wpAnyH_ready (rs := [7]) (by kernel_rfl) (by simp) ?_
        refine AllReadyH.cons (o := ⟨some 103, Op.call { callee := Callee.value (Operand.func 10), args := #[Operand.tmp 97, Operand.tmp 98, Operand.tmp 102], argTypes := #[22, 28, 25] }, 37, _, _, none⟩) rfl (fun K hK => ?_) (AllReadyH.nil)
        all_goals rw [if_pos (by rfl)]
        refine wp_callF 10 _ _ rfl Try.lin10 #[.int .u64 s, (.slice da n dc), .agg ch] (by simp [Act.eval]) (fun vz wz => vz = .tuple #[.bool true, .int .i64 0] ∧ Below wd.heap.size wd wz) ?_ ?_
        · refine (HHAS.out d (.slice da n dc) x ch wd Hch.out HLd.out.d HDb.out HDl.out HXH.out).mono ?_
          rintro e wz ⟨rfl, hbz⟩
          exact ⟨_, rfl, rfl, hbz⟩
        rintro vz w9 ⟨rfl, hb⟩
        have HL := Keep.mk (HLd.out.more hb)
        refine hK.out _ _ HL.out fun hHeld => ?_
        clear hK HLd hb
        simp only [Act.put, List.setIfInBounds_toArray, List.set_cons_zero, List.set_cons_succ]
        refine wpAnyH_take (i := 8) (oi := ⟨some 95, Op.move (Operand.tmp 103), 37, _, _, none⟩) (v := .tuple #[.bool true, .int .i64 0]) rfl (by kernel_rfl) (by kernel_rfl) (by kernel_rfl) (fun _ _ _ h => h) (Or.inl ⟨by rfl, fun w hS => by go_simp⟩) hHeld ?_
        simp only [Act.put, List.setIfInBounds_toArray, List.set_cons_zero, List.set_cons_succ]
        refine wpAnyH_take (i := 9) (oi := ⟨some 104, Op.extract (Operand.tmp 95) 0, 4, _, _, none⟩) (v := .bool true) rfl (by kernel_rfl) (by kernel_rfl) (by kernel_rfl) (fun _ _ _ h => h) (Or.inl ⟨by rfl, fun w hS => by go_simp⟩) hHeld ?_
        simp only [Act.put, List.setIfInBounds_toArray, List.set_cons_zero, List.set_cons_succ]
        refine wpAnyH_take (i := 10) (oi := ⟨some 105, Op.extract (Operand.tmp 95) 1, 34, _, _, none⟩) (v := .int .i64 0) rfl (by kernel_rfl) (by kernel_rfl) (by kernel_rfl) (fun _ _ _ h => h) (Or.inl ⟨by rfl, fun w hS => by go_simp⟩) hHeld ?_
        simp only [Act.put, List.setIfInBounds_toArray, List.set_cons_zero, List.set_cons_succ]
        refine wpAnyH_take (i := 11) (oi := ⟨some 15, Op.assign (Operand.tmp 104), 4, _, _, none⟩) (v := .bool true) rfl (by kernel_rfl) (by kernel_rfl) (by kernel_rfl) (fun _ _ _ h => h) (Or.inl ⟨by rfl, fun w hS => by go_simp⟩) hHeld ?_
        simp only [Act.put, List.setIfInBounds_toArray, List.set_cons_zero, List.set_cons_succ]
        refine wpAnyH_take (i := 12) (oi := ⟨some 16, Op.assign (Operand.tmp 105), 34, _, _, none⟩) (v := .int .i64 0) rfl (by kernel_rfl) (by kernel_rfl) (by kernel_rfl) (fun _ _ _ h => h) (Or.inl ⟨by rfl, fun w hS => by go_simp⟩) hHeld ?_
        simp only [Act.put, List.setIfInBounds_toArray, List.set_cons_zero, List.set_cons_succ]
        refine wpAnyH_done (by kernel_rfl) ?_ _
        clear hHeld
        go_wp2
        go_roundw
        case rel => exact ⟨t + 1, by omega, by go_num, HL.out⟩
        case measure => simp only [intOf]; omega
      · obtain rfl : NN = t := by omega
        have HB := Keep.mk hL.B
        clear hL
        go_wp2
        go_ret
        exact ⟨rfl, HB.out⟩

end Go.Proofs.Ytfheinghkigocab
namespace Go.Proofs.Ytfheinghkigocab
open Go.ChangeShapes Go.WideShapes Go.ChangeAt Go.RowKit Go.Deep
set_option linter.unusedSimpArgs false
set_option linter.unusedVariables false

theorem Try.cellsOf28 : Try.prog.cellsOf 28 = 1 := by kernel_rfl
theorem Try.cellsOf23 : Try.prog.cellsOf 23 = 1 := by kernel_rfl
theorem Try.cellsOf22 : Try.prog.cellsOf 22 = 1 := by kernel_rfl
theorem Try.cellsOf3 : Try.prog.cellsOf 3 = 1 := by kernel_rfl
theorem Try.cellsOf5 : Try.prog.cellsOf 5 = 1 := by kernel_rfl
theorem Try.cellsOf25 : Try.prog.cellsOf 25 = 32 := by kernel_rfl
theorem Try.bytesOf5 : Try.prog.bytesOf 5 = 1 := by kernel_rfl
theorem Try.bytesOf25 : Try.prog.bytesOf 25 = 32 := by kernel_rfl
theorem reach_is : reachBytes = 140737488351232 := by decide
theorem add_none' (b o i : Nat) : (⟨b, o, none⟩ : Addr).add i = ⟨b, o + i, none⟩ := by
  cases i with
  | zero => rfl
  | succ i => rfl
theorem wf_u8 {n : Int} (h : (Lit.int .u8 n).wf = true) : 0 ≤ n ∧ n < 256 := by
  have h1 : IntKind.u8.min = 0 := by decide
  have h2 : IntKind.u8.max = 255 := by decide
  simp only [Lit.wf, h1, h2, Bool.and_eq_true, decide_eq_true_eq] at h
  omega
theorem wf_i64 {n : Int} (h : (Lit.int .i64 n).wf = true) : -9223372036854775808 ≤ n ∧ n ≤ 9223372036854775807 := by
  have h1 : IntKind.i64.min = -9223372036854775808 := by decide
  have h2 : IntKind.i64.max = 9223372036854775807 := by decide
  simp only [Lit.wf, h1, h2, Bool.and_eq_true, decide_eq_true_eq] at h
  omega

/-- A reading of a slice of bytes tells a row. -/
theorem row_of_trod {H : Type} {enc : TypeId × Value → H} {W : World} {sp : Nat → Bool} {held : Bool} {n base : Nat} {v : Value} {x : DataW H × List MemPlace} (hf : DataW.trod enc Try.prog W base sp held n 28 [v] = some x) (hw : ∀ n ∈ x.1.weights Try.prog 28, n ≤ reachBytes) :
    ∃ l : List Int, RowAt W v l ∧ Byts l ∧ l.length ≤ 140737488351232 := by
  rcases open_ints Try.underlying28 Try.underlying5 Try.cellsOf5 hf with ⟨hcs, _⟩ | ⟨a, len, cap, zs, hcs, _, hl, hm, hz, hx, hcell, hwz⟩
  · simp at hcs
    subst hcs
    exact ⟨[], .inl ⟨rfl, rfl⟩, Byts.nil, by simp⟩
  · simp at hcs
    subst hcs
    unfold maxLen at hm
    have hlz : len ≤ zs.length := by rw [hz]; split <;> omega
    have hbz : Byts zs := fun c hc => wf_u8 (hwz c hc)
    have hb : len ≤ 140737488351232 := by
      have h1 := hw ((zs.take len).length + (zs.drop len).length) (by
        rw [hx]
        simp only [DataW.weights, Try.underlying28]
        simp [lits, Try.bytesOf5])
      rw [List.length_take, reach_is] at h1
      omega
    by_cases h0 : len = 0
    · subst h0
      exact ⟨[], .inr (.inl ⟨a, cap, rfl, rfl⟩), Byts.nil, by simp⟩
    · have hs : a.spot = none := by
        have := hcell 0 (by omega)
        rw [show a.add 0 = a from rfl] at this
        exact World.cell?_spot this
      obtain ⟨b, off, sp⟩ := a
      obtain rfl : sp = none := hs
      have hlen : (zs.take len).length = len := by rw [List.length_take]; omega
      refine ⟨zs.take len, .inr (.inr ⟨b, off, cap, by rw [hlen], by omega, fun i hi => ?_⟩), hbz.take len, by omega⟩
      rw [hlen] at hi
      have := hcell i (by omega)
      rw [add_none'] at this
      rw [this]
      simp [List.getD, hi]
theorem trod_struct3 {H : Type} {enc : TypeId × Value → H} {P : Program} {w : World} {base : Nat} {spare : Nat → Bool} {held : Bool} {t : TypeId} {f0 f1 f2 : Field} {fuel : Nat} {cs : List Value} {x : DataW H × List MemPlace} (ht : P.underlying t = some (.struct #[f0, f1, f2])) (h : DataW.trod enc P w base spare held fuel t cs = some x) :
    ∃ y0 y1 y2 n, x.1 = .agg [y0.1, y1.1, y2.1] ∧ cs.length = P.cellsOf t ∧ DataW.trod enc P w base spare held n f0.type ((cs.drop f0.offset).take (P.cellsOf f0.type)) = some y0 ∧
      DataW.trod enc P w base spare held n f1.type ((cs.drop f1.offset).take (P.cellsOf f1.type)) = some y1 ∧ DataW.trod enc P w base spare held n f2.type ((cs.drop f2.offset).take (P.cellsOf f2.type)) = some y2 := by
  obtain ⟨xs, n, _, rfl, hl, hlen, hf⟩ := DataW.trod_struct ht h
  match xs, hlen with
  | [y0, y1, y2], _ => exact ⟨y0, y1, y2, n, by simp, hl, by simpa using hf 0 f0 rfl, by simpa using hf 1 f1 rfl, by simpa using hf 2 f2 rfl⟩
theorem wf_u64 {n : Int} (h : (Lit.int .u64 n).wf = true) : 0 ≤ n ∧ n < 18446744073709551616 := by
  have h1 : IntKind.u64.min = 0 := by decide
  have h2 : IntKind.u64.max = 18446744073709551615 := by decide
  simp only [Lit.wf, h1, h2, Bool.and_eq_true, decide_eq_true_eq] at h
  omega
theorem take_one {l : List Value} {i : Nat} {v : Value} (h : (l.drop i).take 1 = [v]) : l[i]? = some v := by
  have h2 : ((l.drop i).take 1)[0]? = some v := by rw [h]; rfl
  rw [List.getElem?_take, if_pos (by omega), List.getElem?_drop] at h2
  simpa using h2
/-- A reading of 32 cells as a hash tells its bytes. -/
theorem hash_of_trod {H : Type} {enc : TypeId × Value → H} {W : World} {sp : Nat → Bool} {held : Bool} {n base : Nat} {l : List Value} {x : DataW H × List MemPlace} (hf : DataW.trod enc Try.prog W base sp held n 25 l = some x) :
    ∃ c : Nat → Int, l = (bytesA 32 c).toList ∧ ∀ i, i < 32 → 0 ≤ c i ∧ c i < 256 := by
  obtain ⟨xs, m, _, _, hl, hx, hel⟩ := DataW.trod_array Try.underlying25 hf
  rw [Try.cellsOf25] at hl
  rw [Try.cellsOf5] at hel
  have each : ∀ i, i < 32 → ∃ z : Int, l[i]? = some (.int .u8 z) ∧ 0 ≤ z ∧ z < 256 := by
    intro i hi
    have h1 := hel i hi
    rw [List.getElem?_eq_getElem (by omega), Nat.mul_one] at h1
    obtain ⟨z, hz, _, hw⟩ := DataW.trod_int Try.underlying5 h1
    have hb := wf_u8 hw
    exact ⟨z, take_one hz, by omega, by omega⟩
  obtain ⟨c, hc⟩ := Go.Deep.choose_lt each
  refine ⟨c, ?_, fun i hi => (hc i hi).2⟩
  apply List.ext_getElem?
  intro i
  by_cases hi : i < 32
  · rw [(hc i hi).1, Array.getElem?_toList, bytesA_get _ _ _ hi]
  · rw [List.getElem?_eq_none (by omega), List.getElem?_eq_none (by rw [Array.length_toList, bytesA_size]; omega)]
/-- A reading of a slice of hashes tells a row. -/
theorem hrow_of_trod {H : Type} {enc : TypeId × Value → H} {W : World} {sp : Nat → Bool} {held : Bool} {n base : Nat} {v : Value} {x : DataW H × List MemPlace} (hf : DataW.trod enc Try.prog W base sp held n 23 [v] = some x) :
    ∃ L : List Hs, HRow W v L ∧ (L = [] ∨ ∃ (D : Nat → DataW H) (rest : List (DataW H)), x.1 = .slice ((List.range L.length).map D) rest) := by
  rcases open_slice Try.underlying23 hf with ⟨hcs, _⟩ | ⟨a, len, cap, m, n, D, Pl, hcs, _, hl, hm, hz, hx, hcell⟩
  · simp at hcs
    subst hcs
    exact ⟨[], .inl ⟨none, 0, rfl, rfl, fun _ => rfl⟩, .inl rfl⟩
  · simp at hcs
    subst hcs
    have hlz : len ≤ m := by rw [hz]; split <;> omega
    by_cases h0 : len = 0
    · subst h0
      exact ⟨[], .inl ⟨some a, cap, rfl, rfl, fun h => by cases h⟩, .inl rfl⟩
    · have each0 : ∀ i, i < len → ∃ c : Nat → Int, (∀ j, j < 32 → 0 ≤ c j ∧ c j < 256) ∧ ∀ j, j < 32 → W.cell? ((a.add (i * 32)).add j) = some (.int .u8 (c j)) := by
        intro i hi
        obtain ⟨cs', h1, h2⟩ := hcell i (by omega)
        rw [Try.cellsOf25] at h1
        obtain ⟨_, hlen, hce⟩ := World.cells?_some h1
        obtain ⟨c, hcs, hc⟩ := hash_of_trod h2
        refine ⟨c, hc, fun j hj => ?_⟩
        rw [hce j hj, hcs, Array.getElem?_toList, bytesA_get 32 c j hj]
      have hs : a.spot = none := by
        obtain ⟨c, _, h3⟩ := each0 0 (by omega)
        have h4 := h3 0 (by omega)
        rw [Nat.zero_mul, show (a.add 0).add 0 = a from rfl] at h4
        exact World.cell?_spot h4
      obtain ⟨b, off, sp⟩ := a
      obtain rfl : sp = none := hs
      have each : ∀ i, i < len → ∃ y : Hs, W.rangeAt b (off + i * 32) (encH y) := by
        intro i hi
        obtain ⟨c, hc, h3⟩ := each0 i hi
        refine ⟨Hs.mk' c hc, fun j v hv => ?_⟩
        have hj : j < 32 := by have := (List.getElem?_eq_some_iff.1 hv).1; rwa [encH_len] at this
        rw [encH_get _ _ hj, Hs.mk'_f _ _ _ hj] at hv
        have h4 := h3 j hj
        rw [Addr.add_mid, Addr.add_mid] at h4
        rw [h4]; exact hv
      obtain ⟨y, hy⟩ := Go.Deep.choose_lt each
      refine ⟨(List.range len).map y, .inr ⟨b, off, cap, by simp, by simpa using hl, rangeAt_of_elems fun i hi => ?_⟩, .inr ⟨D, (List.range (m - len)).map fun j => D (len + j), ?_⟩⟩
      · have hi' : i < len := by simpa using hi
        simpa using hy i hi'
      · rw [hx]; simp
/-- A hash that is handed in. -/
theorem hs_of_trod {H : Type} {enc : TypeId × Value → H} {W : World} {sp : Nat → Bool} {held : Bool} {n base : Nat} {l : List Value} {x : DataW H × List MemPlace} (hf : DataW.trod enc Try.prog W base sp held n 25 l = some x) : ∃ y : Hs, l = (bytesA 32 y.f).toList := by
  obtain ⟨c, hl, hc⟩ := hash_of_trod hf
  have h := (mkH_arr c hc).trans (encH_arr (Hs.mk' c hc))
  generalize Hs.mk' c hc = y at h
  exact ⟨y, by rw [hl, h]⟩
/-- A slice of hashes that is handed in. -/
theorem hrows_of_trod {H : Type} {enc : TypeId × Value → H} {W : World} {sp : Nat → Bool} {held : Bool} {n base : Nat} {v : Value} {x : DataW H × List MemPlace} (hf : DataW.trod enc Try.prog W base sp held n 23 [v] = some x) (hw : ∀ n ∈ x.1.weights Try.prog 23, n ≤ reachBytes) :
    ∃ L : List Hs, HRow W v L ∧ L.length ≤ 4398046510976 := by
  obtain ⟨L, h1, h2⟩ := hrow_of_trod hf
  refine ⟨L, h1, ?_⟩
  rcases h2 with rfl | ⟨D, rest, hx⟩
  · simp
  · have h3 := hw ((((List.range L.length).map D).length + rest.length) * 32) (by
      rw [hx]
      simp only [DataW.weights, Try.underlying23]
      simp [Try.bytesOf25])
    rw [reach_is] at h3
    simp only [List.length_map, List.length_range] at h3
    omega
set_option maxRecDepth 8000 in
/-- The block of a slice that is handed in is there. -/
theorem wide_lt {W : World} {r : Reach} {base : Nat} {t e : TypeId} (hu : Try.prog.underlying t = some (.slice e)) {a : Option Addr} {n c : Nat} (h : Value.okWide Try.prog W r base t (.slice a n c)) : ∀ k, (Value.slice a n c).ownBlock = some k → k < W.heap.size := by
  intro k hk
  cases a with
  | none => simp [Value.ownBlock] at hk
  | some ad =>
    simp [Value.ownBlock] at hk
    subst hk
    unfold Value.okWide at h
    simp only [hu] at h
    unfold Cell.okWide at h
    simp only [hu] at h
    unfold Cell.ok at h
    simp only [hu] at h
    obtain ⟨_, _, _, _, row, cells, hs, _⟩ := h
    apply Nat.lt_of_not_le
    intro hle
    simp [World.shape?, Array.getElem?_eq_none hle] at hs
theorem Try.cellsOf27 : Try.prog.cellsOf 27 = 34 := by kernel_rfl
/-- An Ask that is handed in. -/
theorem ask_of_trod {H : Type} {enc : TypeId × Value → H} {W : World} {sp : Nat → Bool} {held : Bool} {n base : Nat} {cs : List Value} {x : DataW H × List MemPlace} (hf : DataW.trod enc Try.prog W base sp held n 27 cs = some x) (hw : ∀ n ∈ x.1.weights Try.prog 27, n ≤ reachBytes) :
    ∃ (s : Int) (v : Value) (L : List Hs) (y : Hs), cs = .int .u64 s :: v :: encH y ∧ (0 ≤ s ∧ s < 18446744073709551616) ∧ HRow W v L ∧ L.length ≤ 4398046510976 := by
  obtain ⟨y0, y1, y2, k, hx, hl, h0, h1, h2⟩ := trod_struct3 Try.underlying27 hf
  rw [Try.cellsOf27] at hl
  match cs, hl with
  | a :: b :: c, hl =>
  have hc : c.length = 32 := by simpa using hl
  simp only [Try.cellsOf22, Try.cellsOf23, Try.cellsOf25, List.drop_zero, List.take_succ_cons, List.take_zero, List.drop_succ_cons] at h0 h1 h2
  rw [List.take_of_length_le (by omega)] at h2
  obtain ⟨n0, e0, w0⟩ := DataW.trod_int Try.underlying22 h0
  obtain ⟨L, r1, r2⟩ := hrows_of_trod h1 (fun n hn => hw n (by
    rw [hx]
    simp only [DataW.weights, Try.underlying27]
    exact DataW.weights_mem_each (j := 1) (t := 23) rfl rfl n hn))
  obtain ⟨y, hy⟩ := hs_of_trod h2
  simp at e0
  exact ⟨n0, b, L, y, by rw [e0, hy, encH], wf_u64 w0.2, r1, r2⟩
end Go.Proofs.Ytfheinghkigocab
