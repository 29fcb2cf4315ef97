import Derived.Test.YtdpcjfafbmhceaaA01
import Derived.ArgAppend
import Derived.Lib.ConvBytes
import Derived.RowKit
import Derived.WalkKit
import Derived.WalkSpells
import Derived.WalkLawsBesides
import Derived.BigQuiet
import Derived.BigRegion
import Derived.Deep.WholeRow
import Derived.Deep.MidRow
import Derived.Deep.RegionWith
import Derived.Deep.DeepCutAuto
import Derived.Deep.RegionHeld3
import Derived.Laws.CopyRow
import Derived.Laws.CopyOwn
namespace Go.Proofs.Ytdpcjfafbmhceaa
open Go.RowKit
theorem vD {w w' : World} {v : Value} (h : RowAt w v []) : RowAt w' v [] := by
 rcases h with h | h | ⟨q, off, cap, h1, h2, h3⟩
 ·exact .inl h
 ·exact .inr (.inl h)
 ·exact .inr (.inr ⟨q, off, cap, h1, h2, fun i hi => by simp at hi⟩)
set_option maxRecDepth 8000 in
set_option maxHeartbeats 1000000 in
theorem vV (v vx : Value) (l m : List Int) (w : World) (h : Own w v l) (hx : RowAt w vx m) (hsep : m ≠ [] → ∀ k, vx.ownBlock = some k → v.ownBlock ≠ some k) (hb0 : l.length + (qQ m.length).length ≤ 140737488355328) (hb : l.length + (zJ m).length ≤ 200000000000000) :
  Calls Try.prog 89 #[v, vx] w (LayPost v (l ++ zJ m) w) := by
 have HO : Keep (Own w v l) := ⟨h⟩
 have HX : Keep (RowAt w vx m) := ⟨hx⟩
 have HS := kk hsep
 have HB0 := kk hb0
 have HB : Keep (l.length + (qQ m.length).length + m.length ≤ 200000000000000) := ⟨by simpa [zJ, Nat.add_assoc] using hb⟩
 obtain ⟨xa, xc, rfl⟩ := qR hx
 have hw := vI m.length (by have := HB.out; omega)
 clear h hx hb hb0 hsep
 go_enter Try.func89, Try.ntmps89
 go_wp2_with fail
 refine (KL v l m.length w HO.out (by have := HB.out; omega) HB0.out).mono ?_
 rintro e w1 ⟨v1, rfl, hO1, hm1, hg1⟩
 have HX1 : Keep (RowAt w1 (.slice xa m.length xc) m) := ⟨by
  by_cases h0 : m = []
  ·have h1 := HX.out
   rw [h0] at h1 ⊢
   exact vD h1
  ·exact HX.out.grown hg1 fun b hb _ => HS.out h0 b hb⟩
 have HO1 := kk hO1
 have HB1 : Keep ((l ++ qQ m.length).length + m.length ≤ 200000000000000) := ⟨by simpa using HB.out⟩
 clear hO1
 go_wp2_with (first | (at_builtin; refine Kx rfl (.tmp 10) (.tmp 11) rfl v1 _ (l ++ qQ m.length) m rfl rfl HO1.out HX1.out HB1.out ?_; intro v' w' hp; refine Hid.out ?_))
 refine zp ?_
 have HP : Keep (AppPost w1 v1 (l ++ zJ m) v' w') := ⟨by rw [List.append_assoc] at hp; exact hp⟩
 clear hp
 go_wp2
 go_ret
 exact HP.out.lay.trans hm1 hg1
def hof (l : List Int) : Nat → Int := fun i => l.getD i 0
set_option maxRecDepth 8000 in
set_option maxHeartbeats 1000000 in
theorem yS (v : Value) (l : List Int) (c : Nat → Int) (w : World) (h : Own w v l) (hb : l.length + 32 ≤ 140737488355328) :
  Calls Try.prog 74 #[v, .agg (qb 32 c)] w (LayPost v (l ++ hl 32 c) w) := by
 have HO := kk (h.box (.cells (qb 32 c) 32))
 have HBx := kk (Blk.new w 32 (qb 32 c))
 have HG := kk (Grown.alloc w (.cells (qb 32 c) 32) fun k => v.ownBlock = some k)
 have HB := kk hb
 have HN : Keep (v.ownBlock ≠ some w.heap.size) := ⟨fun e => by have := h.lt _ e; omega⟩
 clear h hb
 go_enter Try.func74, Try.ntmps74
 go_wp2_with (first | (refine zD rfl 32 (.tmp 1) rfl (qb 32 c) rfl ?_))
 generalize w.alloc (.cells (qb 32 c) 32) = w0 at *
 go_loopw [0, 5] (fun b i wr => ∃ (t : Nat) (v1 : Value), t ≤ 32 ∧ b = v1 ∧ i = .int .i64 t ∧ Own wr v1 (l ++ hl t c) ∧ Blk wr w.heap.size 32 (qb 32 c) ∧ Moved w v v1 ∧ Grown w wr fun k => v.ownBlock = some k) (fun _ i _ => 32 - (intOf i).toNat)
 case atStart => exact ⟨0, v, by omega, rfl, rfl, by simpa [hl] using HO.out, HBx.out, Moved.refl _ _, HG.out⟩
 case round =>
  obtain ⟨t, v1, ht, rfl, rfl, hO1, hb1, hm1, hg1⟩ := hrel
  by_cases hlt : t < 32
  ·have hlt' : (t : Int) < 32 := by omega
   have cc : wr.cell? ⟨w.heap.size, t, none⟩ = some (.int .u8 (c t)) := by rw [hb1.cell, qN _ _ _ hlt]
   have HO1 := kk (hO1.box (.cells #[.int .u8 (c t)] 5))
   have Hb := kk (hb1.alloc (.cells #[.int .u8 (c t)] 5))
   have Hne := kk (hO1.ne hb1 (by decide))
   have hlen : Keep ((l ++ hl t c).length + [c t].length ≤ 140737488355328) := ⟨by have := HB.out; simp [jm]; omega⟩
   clear hO1 hb1
   go_wp2_with (first | (at_builtin; refine jh rfl (.tmp 10) (.tmp 14) rfl _ (.slice (some ⟨wr.heap.size, 0, none⟩) 1 1) (l ++ hl t c) [c t] rfl rfl HO1.out (jb wr _) hlen.out ?_; intro v' w' hp; refine Hid.out ?_))
   refine zp ?_
   have HP := kk hp.box
   have HBn := kk (hp.grown.blk Hb.out Hne.out)
   clear hp cc
   go_wp2
   go_roundw
   case rel =>
    obtain ⟨hO2, hm2, hg2⟩ := HP.out
    refine ⟨t + 1, v', by omega, rfl, by go_num, ?_, HBn.out, hm1.trans hg1.size hm2, hg1.next hg2 fun i hi h => hm1.old hi h⟩
    have e : l ++ hl (t + 1) c = l ++ hl t c ++ [c t] := by simp [hl, List.range_succ]
    rw [e]; exact hO2
   case measure => simp only [intOf]; omega
  ·obtain rfl : t = 32 := by omega
   have HO1 := kk hO1
   clear hO1
   go_wp2
   go_ret
   exact ⟨_, rfl, HO1.out, hm1, hg1⟩
end Go.Proofs.Ytdpcjfafbmhceaa
namespace Go.Proofs.Ytdpcjfafbmhceaa
open Go.RowKit
set_option linter.unusedSimpArgs false
set_option linter.unusedVariables false
namespace RtP
structure CE where
 kd : Nat
 key : List Int
 val : List Int
section
variable (H : List Int → List Int) (N : Nat → List Int)
def leafR (c : CE) : List Int := 0 :: (N c.kd ++ (N c.key.length ++ (c.key ++ (N c.val.length ++ c.val))))
def innR (a b : List Int) : List Int := 1 :: (a ++ b)
def halfF : Nat → Nat → Nat → Nat
 | 0, m, _ => m
 | k + 1, m, n => if m ≤ (n - 1) / 2 then halfF k (m * 2) n else m
def half (n : Nat) : Nat := halfF 64 1 n
def tree : Nat → List CE → List Int
 | 0, _ => []
 | k + 1, l => if l.length ≤ 1 then H (leafR N (l.headD ⟨0, [], []⟩)) else H (innR (tree k (l.take (half l.length))) (tree k (l.drop (half l.length))))
def treeRs : Nat → List CE → List (List Int)
 | 0, _ => []
 | k + 1, l => if l.length ≤ 1 then [leafR N (l.headD ⟨0, [], []⟩)] else treeRs k (l.take (half l.length)) ++ (treeRs k (l.drop (half l.length)) ++ [innR (tree H N k (l.take (half l.length))) (tree H N k (l.drop (half l.length)))])
def path : Nat → List CE → Nat → List (List Int)
 | 0, _, _ => []
 | k + 1, l, i => if l.length ≤ 1 then [] else if i < half l.length then path k (l.take (half l.length)) i ++ [tree H N k (l.drop (half l.length))] else path k (l.drop (half l.length)) (i - half l.length) ++ [tree H N k (l.take (half l.length))]
def climb : Nat → Nat → Nat → List Int → List (List Int) → Option (List Int × List (List Int))
 | 0, _, _, _, _ => none
 | k + 1, n, i, h, p => if n ≤ 1 then (match p with | [] => some (h, []) | _ :: _ => none) else match p with
  | [] => none
  | b :: r => if i < half n then (match climb k (half n) i h r with | some (x, rs) => some (H (innR x b), rs ++ [innR x b]) | none => none) else (match climb k (n - half n) (i - half n) h r with | some (x, rs) => some (H (innR b x), rs ++ [innR b x]) | none => none)
theorem halfF_le : ∀ (k m n : Nat), 1 ≤ m → m < n → 1 ≤ halfF k m n ∧ halfF k m n < n
 | 0, m, n, h1, h2 => ⟨h1, h2⟩
 | k + 1, m, n, h1, h2 => by
  unfold halfF
  split
  ·exact halfF_le k (m * 2) n (by omega) (by omega)
  ·exact ⟨h1, h2⟩
theorem half_le {n : Nat} (h : 2 ≤ n) : 1 ≤ half n ∧ half n < n := halfF_le 64 1 n (by omega) (by omega)
theorem tree_len (hH : ∀ l, (H l).length = 32) : ∀ (k : Nat) (l : List CE), 1 ≤ l.length → l.length ≤ k → (tree H N k l).length = 32
 | 0, l, h1, h2 => by omega
 | k + 1, l, _, _ => by
  unfold tree
  split <;> exact hH _
theorem climb_len (hH : ∀ l, (H l).length = 32) : ∀ (k n i : Nat) (h : List Int) (p : List (List Int)) (t : List Int) (rs : List (List Int)), h.length = 32 → climb H k n i h p = some (t, rs) → t.length = 32
 | 0, n, i, h, p, t, rs, _, hc => by simp [climb] at hc
 | k + 1, n, i, h, p, t, rs, hl, hc => by
  unfold climb at hc
  split at hc
  ·split at hc
   ·injection hc with hc
    injection hc with h1 _
    rw [← h1]; exact hl
   ·cases hc
  ·split at hc
   ·cases hc
   ·split at hc
    ·split at hc
     ·injection hc with hc
      injection hc with h1 _
      rw [← h1]; exact hH _
     ·cases hc
    ·split at hc
     ·injection hc with hc
      injection hc with h1 _
      rw [← h1]; exact hH _
     ·cases hc
def bl : List Int → List Int → Bool
 | _, [] => false
 | [], _ :: _ => true
 | a :: x, b :: y => if a < b then true else if b < a then false else bl x y
def ahead (k : Nat) (s : List Int) (j : Nat) (t : List Int) : Bool := decide (k < j) || (decide (k = j) && bl s t)
theorem bl_trans : ∀ x y z, bl x y = true → bl y z = true → bl x z = true
 | _, _, [], _, h => by simp [bl] at h
 | _, [], _ :: _, h, _ => by simp [bl] at h
 | [], _ :: _, _ :: _, _, _ => rfl
 | a :: x, b :: y, c :: z, h, k => by
  unfold bl at h k ⊢
  by_cases h1 : a < b
  ·by_cases k1 : b < c
   ·rw [if_pos (by omega)]
   ·rw [if_neg k1] at k
    by_cases k2 : c < b
    ·rw [if_pos k2] at k; cases k
    ·rw [if_pos (by omega)]
  ·rw [if_neg h1] at h
   by_cases h2 : b < a
   ·rw [if_pos h2] at h; cases h
   ·rw [if_neg h2] at h
    by_cases k1 : b < c
    ·rw [if_pos (by omega)]
    ·rw [if_neg k1] at k
     by_cases k2 : c < b
     ·rw [if_pos k2] at k; cases k
     ·rw [if_neg k2] at k
      rw [if_neg (by omega), if_neg (by omega)]
      exact bl_trans x y z h k
theorem ahead_trans {a b c : Nat} {s t r : List Int} (h : ahead a s b t = true) (k : ahead b t c r = true) : ahead a s c r = true := by
 simp only [ahead, Bool.or_eq_true, Bool.and_eq_true, decide_eq_true_eq] at h k ⊢
 rcases h with h | ⟨h1, h2⟩
 ·rcases k with k | ⟨k1, _⟩
  ·exact .inl (by omega)
  ·exact .inl (by omega)
 ·rcases k with k | ⟨k1, k2⟩
  ·exact .inl (by omega)
  ·exact .inr ⟨by omega, bl_trans _ _ _ h2 k2⟩
def ah (c d : CE) : Bool := ahead c.kd c.key d.kd d.key
def Ord (l : List CE) : Prop := l.Pairwise fun c d => ah c d = true
theorem ord_of {l : List CE} (h : ∀ (i : Nat) (c d : CE), l[i]? = some c → l[i + 1]? = some d → ah c d = true) : Ord l := by
 induction l with
 | nil => exact List.Pairwise.nil
 | cons c r ih =>
  have ir := ih fun i x y hx hy => h (i + 1) x y hx hy
  refine List.Pairwise.cons (fun d hd => ?_) ir
  cases r with
  | nil => simp at hd
  | cons e r' =>
   have h0 := h 0 c e rfl rfl
   rcases List.mem_cons.1 hd with rfl | hd
   ·exact h0
   ·exact ahead_trans h0 ((List.pairwise_cons.1 ir).1 d hd)
variable (E : Nat → List Int)
def topR (n : Nat) (t : List Int) : List Int := 2 :: (E n ++ (if 0 < n then t else []))
def rootR (l : List CE) : List Int := topR E l.length (tree H N l.length l)
def rootRs (l : List CE) : List (List Int) := treeRs H N l.length l ++ [rootR H N E l]
structure LF where
 num : Nat
 c : CE
 p : List (List Int)
def says (k : Nat) (s : List Int) (n : Nat) : List LF → Option Bool
 | [] => if n = 0 then some false else none
 | [x] => if ahead x.c.kd x.c.key k s = false ∧ ahead k s x.c.kd x.c.key = false then some true else if (ahead k s x.c.kd x.c.key = true ∧ x.num = 0) ∨ (ahead x.c.kd x.c.key k s = true ∧ x.num + 1 = n) then some false else none
 | [x, y] => if ahead x.c.kd x.c.key k s = true ∧ ahead k s y.c.kd y.c.key = true ∧ y.num = x.num + 1 then some false else none
 | _ => none
end
end RtP
end Go.Proofs.Ytdpcjfafbmhceaa
namespace Go.Proofs.Ytdpcjfafbmhceaa
open Go.RowKit
set_option linter.unusedSimpArgs false
set_option linter.unusedVariables false
def zi (k : Int) : Bool := decide (1 ≤ k) && decide (k ≤ 4)
set_option maxRecDepth 8000 in
theorem xD (k : Int) (w : World) : Calls Try.prog 29 #[.int .i64 k] w fun e w' => e = .returned (.bool (zi k)) ∧ w' = w := by
 by_cases h1 : 1 ≤ k
 ·by_cases h2 : k ≤ 4
  ·go_enter Try.func29, Try.ntmps29
   go_wp2
   go_ret
   simp [zi, h1, h2]
  ·go_enter Try.func29, Try.ntmps29
   go_wp2
   go_ret
   simp [zi, h1, h2]
 ·go_enter Try.func29, Try.ntmps29
  go_wp2
  go_ret
  have : decide (1 ≤ k) = false := by simp; omega
  simp [zi, this]
theorem jv : ∀ a b : List UInt8, Op.bytesLess a b = RtP.bl (a.map fun b => (b.toNat : Int)) (b.map fun b => (b.toNat : Int))
 | _, [] => by simp [Op.bytesLess, RtP.bl]
 | [], _ :: _ => by simp [Op.bytesLess, RtP.bl]
 | a :: x, b :: y => by
  have ih := jv x y
  simp only [Op.bytesLess, List.map_cons, RtP.bl, ih]
  have e1 : (a < b) = ((a.toNat : Int) < (b.toNat : Int)) := by rw [UInt8.lt_iff_toNat_lt]; simp
  have e3 : (a == b) = decide ((a.toNat : Int) = (b.toNat : Int)) := by
   rw [Bool.eq_iff_iff]; simp [← UInt8.toNat_inj]; omega
  simp only [e1, e3]
  by_cases h1 : (a.toNat : Int) < b.toNat
  ·simp [h1]
  ·by_cases h2 : (b.toNat : Int) < a.toNat
   ·have : ¬ (a.toNat : Int) = b.toNat := by omega
    simp [h1, h2, this]
   ·have : (a.toNat : Int) = b.toNat := by omega
    simp [h1, h2, this]
theorem ZP (a b : ByteArray) : Op.bytesLess a.toList b.toList = RtP.bl (lst a) (lst b) := by
 rw [jv, ByteArray.toList_eq, ByteArray.toList_eq]; rfl
def zC (k : Int) (s : ByteArray) (j : Int) (t : ByteArray) : Bool := decide (k < j) || (decide (k = j) && RtP.bl (lst s) (lst t))
set_option maxRecDepth 8000 in
theorem yJ (k : Int) (s : ByteArray) (j : Int) (t : ByteArray) (w : World) : Calls Try.prog 32 #[.int .i64 k, .string s, .int .i64 j, .string t] w fun e w' => e = .returned (.bool (zC k s j t)) ∧ w' = w := by
 by_cases h1 : k < j
 ·go_enter Try.func32, Try.ntmps32
  go_wp2
  go_ret
  simp [zC, h1]
 ·by_cases h2 : k = j
  ·subst h2
   go_enter Try.func32, Try.ntmps32
   go_wp2
   go_ret
   simp [zC, ZP]
  ·go_enter Try.func32, Try.ntmps32
   go_wp2
   go_ret
   simp [zC, h1, h2]
theorem QY (k m n : Nat) (h : ¬ m ≤ (n - 1) / 2) : RtP.halfF k m n = m := by
 cases k with
 | zero => rfl
 | succ k => rw [RtP.halfF, if_neg h]
set_option maxRecDepth 8000 in
theorem kp (n : Nat) (w : World) (h1 : 1 ≤ n) (h2 : n < 9223372036854775808) : Calls Try.prog 72 #[.int .i64 (n : Int)] w fun e w' => e = .returned (.int .i64 (RtP.half n : Int)) ∧ w' = w := by
 have hn1 : (0 : Int) ≤ (n : Int) - 1 := by omega
 have hn2 : (n : Int) - 1 ≤ 9223372036854775806 := by omega
 go_enter Try.func72, Try.ntmps72
 go_wp2
 go_loop [3] (fun m => ∃ (j a : Nat), j ≤ 63 ∧ a = 2 ^ j ∧ m = .int .i64 (a : Int) ∧ a ≤ n ∧ RtP.halfF (64 - j) a n = RtP.half n) (fun m => n - (intOf m).toNat)
 case atStart => exact ⟨0, 1, by omega, rfl, rfl, by omega, rfl⟩
 case round =>
  obtain ⟨j, a, hj, ha, rfl, hl, hf⟩ := hrel
  have hp : 0 < a := by rw [ha]; exact Nat.pos_of_ne_zero (by simp)
  have HF := kk hf
  have HA := kk ha
  clear ha hf
  by_cases hlt : a ≤ (n - 1) / 2
  ·have hlt' : (a : Int) ≤ ((n : Int) - 1) / 2 := by omega
   have ha2 : (a : Int) * 2 ≤ 9223372036854775807 := by omega
   go_wp2
   go_round
   case rel =>
    have hj2 : j < 63 := by
     have := HA.o
     rcases Nat.lt_or_ge j 63 with h | h
     ·exact h
     ·exfalso
      have : 2 ^ 63 ≤ 2 ^ j := Nat.pow_le_pow_right (by omega) h
      omega
    refine ⟨j + 1, a * 2, by omega, by rw [HA.o, Nat.pow_succ], by go_num, by omega, ?_⟩
    rw [← HF.o, show 64 - j = (64 - (j + 1)) + 1 by omega, RtP.halfF, if_pos hlt]
   case measure => simp [intOf]; omega
  ·have hlt' : ¬ (a : Int) ≤ ((n : Int) - 1) / 2 := by omega
   have hE : Keep (RtP.half n = a) := ⟨by rw [← HF.o, QY _ _ _ hlt]⟩
   go_wp2
   go_ret
   rw [hE.o]
   exact ⟨rfl, rfl⟩
end Go.Proofs.Ytdpcjfafbmhceaa
namespace Go.Proofs.Ytdpcjfafbmhceaa
open Go.RowKit
def qe (n : Nat) (c : Nat → Int) : Array Value := Array.ofFn (n := n) fun i => .int .u32 (c i.val)
theorem qH (n : Nat) (c : Nat → Int) : (qe n c).size = n := by simp [qe]
theorem qr (n : Nat) (c : Nat → Int) (j : Nat) (h : j < n) : (qe n c)[j]? = some (.int .u32 (c j)) := by simp [qe, h]
theorem jA (n : Nat) (c : Nat → Int) (j : Nat) (v : Int) : (qe n c).setIfInBounds j (.int .u32 v) = qe n (upd c j v) := by
 apply Array.ext_getElem?
 intro i
 rw [Array.getElem?_setIfInBounds]
 by_cases e : j = i
 ·subst e
  by_cases hj : j < n <;> simp [qe, upd, hj]
 ·by_cases hi : i < n <;> simp [qe, upd, hi, e, Ne.symm e]
theorem qP (n : Nat) (c : Nat → Int) : (qe n c).all (·.oneCell') = true := by
 rw [Array.all_eq_true_iff_forall_mem]; intro v hv; simp [qe] at hv; obtain ⟨i, rfl⟩ := hv; rfl
theorem jI : (Try.prog.info? 81).map (·.size) = some 8 := by kernel_rfl
theorem jH : (Try.prog.info? 83).map (·.size) = some 64 := by kernel_rfl
theorem Qm : (Try.prog.info? 118).map (·.size) = some 64 := by kernel_rfl
theorem qV (c : Nat → Int) : (Try.prog.info? 81).map (·.size) = some (qe 8 c).size := by rw [qH]; exact jI
theorem zh (c : Nat → Int) : (Try.prog.info? 83).map (·.size) = some (qe 64 c).size := by rw [qH]; exact jH
theorem yM (c : Nat → Int) : (Try.prog.info? 118).map (·.size) = some (qb 64 c).size := by rw [qB]; exact Qm
theorem qW (n : Nat) (c d : Nat → Int) : (qe n c).size = (qe n d).size := by rw [qH, qH]
section
variable {P : Program}
end
theorem zN (w : World) : (Instr.alloc 83 true (.tuple #[])).run Try.prog w = .ok (.pointer (some ⟨w.heap.size, 0, none⟩)) (w.alloc (.cells (qe 64 fun _ => 0) 83)) := by kernel_rfl
theorem jz (w : World) : (Instr.alloc 81 true (.tuple #[])).run Try.prog w = .ok (.pointer (some ⟨w.heap.size, 0, none⟩)) (w.alloc (.cells (qe 8 fun _ => 0) 81)) := by kernel_rfl
section
variable {P : Program} {ops : Array Oper} {Q : Exit → Act → World → Prop} {md : Region.Mode}
theorem yG {l : Array Bool} {i : Nat} (h : l.getD i true = false) : ∃ hi : i < l.size, l[i] = false := by
 by_cases hi : i < l.size
 ·exact ⟨hi, by simpa [Array.getD, hi] using h⟩
 ·simp [Array.getD, hi] at h
theorem XU (I : Array Bool → Act → World → Prop)
  (hs : ∀ l a w, I l a w → l.size = ops.size)
  (hstep : ∀ l a w i o, I l a w → l.getD i true = false → ops[i]? = some o → (∀ e ∈ o.after, Region.binds md e = true → l.getD e.on false = true) →
   o.guard = none ∧ o.wp P a w (I (l.setIfInBounds i true)) Q)
  (hback : ∀ i o, ops[i]? = some o → ∀ e ∈ o.after, Region.binds md e = true → e.on < i)
  (hdone : ∀ l a w, I l a w → (∀ i, i < ops.size → l.getD i false = true) → Q .normal a w) :
  ∀ fuel l a w, l.toList.countP (fun b => !b) ≤ fuel → I l a w → wpAny P md ops Q fuel l a w := by
 have hall : ∀ l a w, I l a w → Region.ready md ops l = [] → ∀ i, i < ops.size → l.getD i false = true := by
  intro l a w hI hr i
  induction i using Nat.strongRecOn with
  | ind i ih =>
   intro hi
   by_cases hc : l.getD i true = false
   ·have : i ∈ Region.ready md ops l := mem_ready.2 ⟨hc, ops[i], Array.getElem?_eq_getElem hi, fun e he hb => ih _ (hback i _ (Array.getElem?_eq_getElem hi) e he hb) (Nat.lt_trans (hback i _ (Array.getElem?_eq_getElem hi) e he hb) hi)⟩
    rw [hr] at this; simp at this
   ·have hl : i < l.size := by rw [hs l a w hI]; exact hi
    simpa [Array.getD, hl] using hc
 intro fuel
 induction fuel with
 | zero =>
  intro l a w hf hI
  have hnil : Region.ready md ops l = [] := by
   rw [List.eq_nil_iff_forall_not_mem]
   intro j hj
   obtain ⟨hj0, _⟩ := mem_ready.1 hj
   obtain ⟨hlt, hv⟩ := yG hj0
   have : 0 < l.toList.countP (fun b => !b) := List.countP_pos_iff.2 ⟨l[j], by simp, by simp [hv]⟩
   omega
  exact ⟨hnil, hdone l a w hI (hall l a w hI hnil)⟩
 | succ fuel ih =>
  intro l a w hf hI
  refine ⟨fun hnil => hdone l a w hI (hall l a w hI hnil), fun i hi => ?_⟩
  obtain ⟨hj0, o, ho, he⟩ := mem_ready.1 hi
  obtain ⟨hlt, hv⟩ := yG hj0
  obtain ⟨hg, hw⟩ := hstep l a w i o hI hj0 ho he
  unfold wpOp
  simp only [ho, Region.wanted, hg, if_true]
  refine .inl (Oper.wp_mono (fun a' w' h' => ih _ a' w' ?_ h') hw)
  have hc := List.countP_set (p := fun b => !b) (l := l.toList) (i := i) (a := true) (by simpa using hlt)
  have hp : 0 < l.toList.countP (fun b => !b) := List.countP_pos_iff.2 ⟨l[i], by simp, by simp [hv]⟩
  have e1 : l.toList[i]'(by simpa using hlt) = false := by simpa using hv
  rw [Array.toList_setIfInBounds, hc, e1]
  generalize List.countP (fun b => !b) l.toList = n at *
  simp
  omega
theorem ya {id : Nat} {a : Act} {w : World} (hm : P.follows .mixedOrders = true) (I : Array Bool → Act → World → Prop)
  (hs : ∀ l a w, I l a w → l.size = ops.size)
  (hstep : ∀ l a w i o, I l a w → l.getD i true = false → ops[i]? = some o → (∀ e ∈ o.after, Region.binds .any e = true → l.getD e.on false = true) →
   o.guard = none ∧ o.wp P a w (I (l.setIfInBounds i true)) Q)
  (hback : ∀ i o, ops[i]? = some o → ∀ e ∈ o.after, Region.binds .any e = true → e.on < i)
  (hdone : ∀ l a w, I l a w → (∀ i, i < ops.size → l.getD i false = true) → Q .normal a w)
  (h0 : I (Array.replicate ops.size false) a w.drew) : (Code.region id ops true).wp P Q a w :=
 wp_region_any hm (XU I hs hstep hback hdone _ _ _ _ (by simp [List.countP_replicate]) h0)
theorem Zi {o : Oper} {a : Act} {w : World} {K : Act → World → Prop} (t : TypeId) (ho : o.op = .alloc t)
  (cells : Array Value) (hf : ∀ w : World, (Instr.alloc t true (.tuple #[])).run P w = .ok (.pointer (some ⟨w.heap.size, 0, none⟩)) (w.alloc (.cells cells t)))
  (h : K (a.put o.dst (.pointer (some ⟨w.heap.size, 0, none⟩))) (w.alloc (.cells cells t))) : o.wp P a w K Q := by
 unfold Oper.wp execOp
 simp only [ho, Sem.run_bind, hf w, Result.andThen_ok]
 exact h
end
theorem QA (w : World) (vs : Array Value) : (callFunc 90 vs).run Try.prog w = .ok (.enter 90 vs) w := by kernel_rfl
theorem Qz (w : World) (vs : Array Value) : (callFunc 91 vs).run Try.prog w = .ok (.enter 91 vs) w := by kernel_rfl
section
variable {P : Program} {ops : Array Oper} {Q : Exit → Act → World → Prop}
def Gg (ops : Array Oper) : Bool := (List.range ops.size).all fun i => match ops[i]? with
 | some o => o.after.all fun e => !Region.binds .any e || decide (e.on < i)
 | none => true
theorem VL (h : Gg ops = true) : ∀ i o, ops[i]? = some o → ∀ e ∈ o.after, Region.binds .any e = true → e.on < i := by
 intro i o ho e he hb
 have hi : i < ops.size := (Array.getElem?_eq_some_iff.1 ho).1
 have h1 := List.all_eq_true.1 h i (List.mem_range.2 hi)
 simp only [ho] at h1
 have h2 := Array.all_eq_true_iff_forall_mem.1 h1 e he
 simpa [hb] using h2
def XG (ops : Array Oper) (n : Nat) : Bool := (List.range ops.size).all fun i => match ops[i]? with
 | some o => (match o.dst with
  | some d => decide (d < n) && (List.range ops.size).all fun j => match ops[j]? with
   | some o' => (o'.dst != some d) || i == j
   | none => true
  | none => true)
 | none => true
theorem XF {n : Nat} (h : XG ops n = true) (i : Nat) (o : Oper) (d : Nat) (ho : ops[i]? = some o) (hd : o.dst = some d) : d < n := by
 have hi : i < ops.size := (Array.getElem?_eq_some_iff.1 ho).1
 have h1 := List.all_eq_true.1 h i (List.mem_range.2 hi)
 simp only [ho, hd, Bool.and_eq_true, decide_eq_true_eq] at h1
 exact h1.1
theorem Qf {n : Nat} (h : XG ops n = true) (i j : Nat) (o o' : Oper) (d : Nat) (ho : ops[i]? = some o) (ho' : ops[j]? = some o') (hd : o.dst = some d) (hd' : o'.dst = some d) : i = j := by
 have hi : i < ops.size := (Array.getElem?_eq_some_iff.1 ho).1
 have hj : j < ops.size := (Array.getElem?_eq_some_iff.1 ho').1
 have h1 := List.all_eq_true.1 h i (List.mem_range.2 hi)
 simp only [ho, hd, Bool.and_eq_true, decide_eq_true_eq] at h1
 have h2 := List.all_eq_true.1 h1.2 j (List.mem_range.2 hj)
 simpa [ho', hd'] using h2
def zx (ops : Array Oper) (V : Nat → Value) (a0 : Act) : Nat → Act
 | 0 => a0
 | n + 1 => match ops[n]? with
  | some o => (zx ops V a0 n).put o.dst (V n)
  | none => zx ops V a0 n
theorem Kc (V : Nat → Value) (a0 : Act) (hd : XG ops a0.tmps.size = true) (n : Nat) :
  (zx ops V a0 n).defers = a0.defers ∧ (zx ops V a0 n).tmps.size = a0.tmps.size ∧
  (∀ t : Nat, (∀ j o, j < n → ops[j]? = some o → o.dst ≠ some t) → (zx ops V a0 n).tmps[t]? = a0.tmps[t]?) ∧
  (∀ j o d, j < n → ops[j]? = some o → o.dst = some d → (zx ops V a0 n).tmps[d]? = some (V j)) := by
 induction n with
 | zero => exact ⟨rfl, rfl, fun _ _ => rfl, fun j _ _ h => absurd h (by omega)⟩
 | succ n ih =>
  obtain ⟨i1, i2, i3, i4⟩ := ih
  cases hn : ops[n]? with
  | none =>
   have e : zx ops V a0 (n + 1) = zx ops V a0 n := by simp only [zx, hn]
   rw [e]
   refine ⟨i1, i2, fun t ht => i3 t (fun j o hj ho => ht j o (by omega) ho), fun j o d hj ho hdd => ?_⟩
   have : j ≠ n := fun e => by subst e; rw [hn] at ho; cases ho
   exact i4 j o d (by omega) ho hdd
  | some o =>
   have e : zx ops V a0 (n + 1) = (zx ops V a0 n).put o.dst (V n) := by simp only [zx, hn]
   rw [e]
   cases hod : o.dst with
   | none =>
    have e2 : (zx ops V a0 n).put none (V n) = zx ops V a0 n := rfl
    rw [e2]
    refine ⟨i1, i2, fun t ht => i3 t (fun j o hj ho => ht j o (by omega) ho), fun j o' d hj ho hdd => ?_⟩
    have : j ≠ n := fun e => by subst e; rw [hn] at ho; cases ho; rw [hod] at hdd; cases hdd
    exact i4 j o' d (by omega) ho hdd
   | some dn =>
    have hlt : dn < a0.tmps.size := XF hd n o dn hn hod
    refine ⟨by simpa [Act.put] using i1, by simpa [Act.put] using i2, fun t ht => ?_, fun j o' d hj ho hdd => ?_⟩
    ·have hne : dn ≠ t := fun e => ht n o (by omega) hn (by rw [hod, e])
     simp only [Act.put]
     rw [Array.getElem?_setIfInBounds_ne hne]
     exact i3 t (fun j o hj ho => ht j o (by omega) ho)
    ·by_cases hjn : j = n
     ·subst hjn
      rw [hn] at ho; cases ho
      rw [hod] at hdd; cases hdd
      simp [Act.put, i2, hlt]
     ·have hne : dn ≠ d := fun e => hjn (Qf hd j n o' o d ho hn hdd (by rw [hod, e]))
      simp only [Act.put]
      rw [Array.getElem?_setIfInBounds_ne hne]
      exact i4 j o' d (by omega) ho hdd
theorem VQ {a b : Act} (h1 : a.tmps = b.tmps) (h2 : a.defers = b.defers) : a = b := by
 cases a; cases b; simp_all
theorem KZ {a : Act} {t : Nat} {v : Value} (h : a.tmps[t]? = some v) : a.eval (.tmp t) = v := by
 simp [Act.eval, h]
theorem xr {id : Nat} {a0 : Act} {w : World} (hm : P.follows .mixedOrders = true) (V : Nat → Value) (W : Array Bool → World → Prop)
  (hd : XG ops a0.tmps.size = true) (hb : Gg ops = true)
  (hstep : ∀ (l : Array Bool) (a : Act) (w : World) (i : Nat) (o : Oper),
   (∀ t : Nat, (∀ (j : Nat) (o' : Oper), ops[j]? = some o' → o'.dst ≠ some t) → a.eval (.tmp t) = a0.eval (.tmp t)) →
   (∀ (j : Nat) (o' : Oper) (d : Nat), ops[j]? = some o' → o'.dst = some d → l.getD j false = true → a.eval (.tmp d) = V j) →
   W l w → l.size = ops.size → l.getD i true = false → ops[i]? = some o → (∀ e ∈ o.after, Region.binds .any e = true → l.getD e.on false = true) →
   o.guard = none ∧ o.wp P a w (fun a' w' => a' = a.put o.dst (V i) ∧ W (l.setIfInBounds i true) w') Q)
  (hdone : ∀ l w, W l w → (∀ i, i < ops.size → l.getD i false = true) → Q .normal (zx ops V a0 ops.size) w)
  (h0 : W (Array.replicate ops.size false) w.drew) : (Code.region id ops true).wp P Q a0 w := by
 refine ya hm (fun l a w => l.size = ops.size ∧ a.defers = a0.defers ∧ a.tmps.size = a0.tmps.size ∧
  (∀ t : Nat, (∀ (j : Nat) (o' : Oper), ops[j]? = some o' → o'.dst ≠ some t) → a.tmps[t]? = a0.tmps[t]?) ∧
  (∀ (j : Nat) (o' : Oper) (d : Nat), ops[j]? = some o' → o'.dst = some d → l.getD j false = true → a.tmps[d]? = some (V j)) ∧ W l w) ?_ ?_ (VL hb) ?_ ?_
 ·intro l a w h; exact h.1
 ·rintro l a w i o ⟨h1, h2, h3, h4, h5, h6⟩ hi ho he
  obtain ⟨hg, hw⟩ := hstep l a w i o (fun t ht => by simp only [Act.eval, Array.getD_eq_getD_getElem?]; rw [h4 t ht]) (fun j o' d hj hdd hl => KZ (h5 j o' d hj hdd hl)) h6 h1 hi ho he
  refine ⟨hg, Oper.wp_mono ?_ hw⟩
  rintro a' w' ⟨rfl, hW⟩
  refine ⟨by simpa using h1, ?_, ?_, ?_, ?_, hW⟩
  ·cases hod : o.dst <;> simpa [Act.put] using h2
  ·cases hod : o.dst <;> simpa [Act.put] using h3
  ·intro t ht
   cases hod : o.dst with
   | none => exact h4 t ht
   | some dn =>
    have hne : dn ≠ t := fun e => ht i o ho (by rw [hod, e])
    simp only [Act.put]
    rw [Array.getElem?_setIfInBounds_ne hne]
    exact h4 t ht
  ·intro j o' d hj hdd hl
   cases hod : o.dst with
   | none =>
    have hji : i ≠ j := fun e => by subst e; rw [ho] at hj; cases hj; rw [hod] at hdd; cases hdd
    rw [getD_set_ne false hji] at hl
    exact h5 j o' d hj hdd hl
   | some dn =>
    have hlt : dn < a0.tmps.size := XF hd i o dn ho hod
    by_cases hji : i = j
    ·subst hji
     rw [ho] at hj; cases hj
     rw [hod] at hdd; cases hdd
     simp [Act.put, h3, hlt]
    ·have hne : dn ≠ d := fun e => hji (Qf hd i j o o' d ho hj (by rw [hod, e]) hdd)
     rw [getD_set_ne false hji] at hl
     simp only [Act.put]
     rw [Array.getElem?_setIfInBounds_ne hne]
     exact h5 j o' d hj hdd hl
 ·rintro l a w ⟨h1, h2, h3, h4, h5, h6⟩ hall
  obtain ⟨p1, p2, p3, p4⟩ := Kc V a0 hd ops.size
  have e : a = zx ops V a0 ops.size := by
   refine VQ (Array.ext_getElem? fun t => ?_) (h2.trans p1.symm)
   by_cases hx : ∃ (j : Nat) (o' : Oper), ops[j]? = some o' ∧ o'.dst = some t
   ·obtain ⟨j, o', hj, hdd⟩ := hx
    have hlt : j < ops.size := (Array.getElem?_eq_some_iff.1 hj).1
    rw [h5 j o' t hj hdd (hall j hlt), p4 j o' t hlt hj hdd]
   ·have hn : ∀ (j : Nat) (o' : Oper), ops[j]? = some o' → o'.dst ≠ some t := fun j o' hj hdd => hx ⟨j, o', hj, hdd⟩
    rw [h4 t hn, p3 t (fun j o' _ hj => hn j o' hj)]
  rw [e]
  exact hdone l w h6 hall
 ·refine ⟨by simp, rfl, rfl, fun _ _ => rfl, fun j o' d _ _ hl => ?_, h0⟩
  simp [Array.getD] at hl
theorem xN {o : Oper} {a : Act} {w : World} {K : Act → World → Prop} (x : Operand) (ho : o.op = .move x) (v : Value) (hv : a.eval x = v) (h : K (a.put o.dst v) w) : o.wp P a w K Q :=
 zq v (by unfold execOp; simp only [ho, hv]; rfl) h
theorem xu {o : Oper} {a : Act} {w : World} {K : Act → World → Prop} (x : Operand) (ho : o.op = .nilCheck x) (b : Addr) (hv : a.eval x = .pointer (some b)) (h : K (a.put o.dst (.pointer (some b))) w) : o.wp P a w K Q :=
 zq _ (by unfold execOp; simp only [ho, hv]; rfl) h
theorem jY {o : Oper} {a : Act} {w : World} {K : Act → World → Prop} (t : TypeId) (x : Operand) (k : Nat) (ho : o.op = .fieldAddr t x k) (v u : Value) (hv : a.eval x = v)
  (hf : ∀ w : World, (Instr.fieldAt t v k).run P w = .ok u w) (h : K (a.put o.dst u) w) : o.wp P a w K Q := by
 refine zq u ?_ h
 unfold execOp
 simp only [ho, hv, Sem.run_bind, hf w, Result.andThen_ok]
 rfl
theorem kK {o : Oper} {a : Act} {w : World} {K : Act → World → Prop} (ty : TypeId) (x y : Operand) (ho : o.op = .store ty x y)
  (g off : Nat) (cells : Array Value) (hx : a.eval x = .pointer (some ⟨g, off, none⟩)) (hy : a.eval y = .agg cells)
  (t : TypeId) (cur : Array Value) (hg : w.heap[g]? = some (.cells cur t (0, 0))) (hi : (P.info? ty).map (·.size) = some cells.size) (hfit : off + cells.size ≤ cur.size)
  (h1 : cells.all (·.oneCell') = true)
  (h : K (a.put o.dst undef) (w.setRow g (cur.toList.take off ++ cells.toList ++ cur.toList.drop (off + cells.size)).toArray)) : o.wp P a w K Q := by
 have hst := run_storeCells_at P g off t cells.toList 0 cur w hg (by simpa using hfit) (fun v hv => (Array.all_eq_true_iff_forall_mem.1 h1) v (by simpa using hv))
 have hrun : (storeVar ty ⟨g, off, none⟩ (.agg cells)).run P w = .ok () (w.setRow g (cur.toList.take off ++ cells.toList ++ cur.toList.drop (off + cells.size)).toArray) := by
  cases hq : P.info? ty with
  | none => simp [hq] at hi
  | some i =>
   have hs : cells.size = i.size := by simp [hq] at hi; omega
   simp only [Nat.add_zero, Array.length_toList] at hst
   simp [storeVar, sizeOf, typeInfo, hq, Value.cells, hs, hst]
 unfold Oper.wp execOp
 simp only [ho, hx, hy, Instr.storeAt, Instr.sureAddr, Sem.run_bind, Sem.run_pure, Result.andThen_ok, hrun]
 exact h
end
def rot (x n : Int) : Int := bits .or .u32 (x * 2 ^ (32 - n).toNat % 4294967296) (x / 2 ^ n.toNat)
theorem Dz (n : Int) (h1 : 1 ≤ n) (h2 : n ≤ 31) : bits .and .u64 (IntKind.u64.wrap (-n)) 31 = 32 - n := by
 obtain ⟨k, rfl⟩ := Int.eq_ofNat_of_zero_le (show 0 ≤ n by omega)
 have hk : k < 32 := by omega
 have hk1 : 1 ≤ k := by omega
 have : ∀ k : Fin 32, 1 ≤ k.val → bits .and .u64 (IntKind.u64.wrap (-((k.val : Nat) : Int))) 31 = 32 - ((k.val : Nat) : Int) := by decide +kernel
 exact this ⟨k, hk⟩ hk1
set_option maxRecDepth 8000 in
set_option maxHeartbeats 400000 in
theorem Zz (x n : Int) (w : World) (h1 : 1 ≤ n) (h2 : n ≤ 31) :
  Calls Try.prog 94 #[.int .u32 x, .int .i64 (-n)] w fun e w' => e = .returned (.int .u32 (rot x n)) ∧ w' = w := by
 have ha := Dz n h1 h2
 have hs : 32 - n ≤ 32 := by omega
 have hs0 : 0 ≤ 32 - n := by omega
 have hw : IntKind.u64.wrap (32 - (32 - n)) = n := by rw [IntKind.wrap_u64]; omega
 go_enter Try.func94, Try.ntmps94
 go_wp2
 go_ret
 exact ⟨rfl, rfl⟩
set_option maxRecDepth 8000 in
set_option maxHeartbeats 400000 in
theorem vK (x n : Int) (w : World) (h1 : 1 ≤ n) (h2 : n ≤ 31) :
  Calls Try.prog 92 #[.int .u32 x, .int .i64 n] w fun e w' => e = .returned (.int .u32 (rot x n)) ∧ w' = w := by
 go_enter Try.func92, Try.ntmps92
 go_wp2_with fail
 refine (Zz x n _ h1 h2).mono ?_
 rintro e w' ⟨rfl, rfl⟩
 go_wp2
 go_ret
 exact ⟨rfl, rfl⟩
def GP : List Int := [0x6a09e667, 0xbb67ae85, 0x3c6ef372, 0xa54ff53a, 0x510e527f, 0x9b05688c, 0x1f83d9ab, 0x5be0cd19]
def zf (i : Nat) : Int := GP.getD i 0
def Va : List Int := [0x428a2f98, 0x71374491, 0xb5c0fbcf, 0xe9b5dba5, 0x3956c25b, 0x59f111f1, 0x923f82a4, 0xab1c5ed5, 0xd807aa98, 0x12835b01, 0x243185be, 0x550c7dc3, 0x72be5d74, 0x80deb1fe, 0x9bdc06a7, 0xc19bf174, 0xe49b69c1, 0xefbe4786, 0x0fc19dc6, 0x240ca1cc, 0x2de92c6f, 0x4a7484aa, 0x5cb0a9dc, 0x76f988da, 0x983e5152, 0xa831c66d, 0xb00327c8, 0xbf597fc7, 0xc6e00bf3, 0xd5a79147, 0x06ca6351, 0x14292967, 0x27b70a85, 0x2e1b2138, 0x4d2c6dfc, 0x53380d13, 0x650a7354, 0x766a0abb, 0x81c2c92e, 0x92722c85, 0xa2bfe8a1, 0xa81a664b, 0xc24b8b70, 0xc76c51a3, 0xd192e819, 0xd6990624, 0xf40e3585, 0x106aa070, 0x19a4c116, 0x1e376c08, 0x2748774c, 0x34b0bcb5, 0x391c0cb3, 0x4ed8aa4a, 0x5b9cca4f, 0x682e6ff3, 0x748f82ee, 0x78a5636f, 0x84c87814, 0x8cc70208, 0x90befffa, 0xa4506ceb, 0xbef9a3f7, 0xc67178f2]
def qu (i : Nat) : Int := Va.getD i 0
set_option maxRecDepth 10000 in
theorem YX (w : World) :
  Calls Try.prog 78 #[] w fun e w' => e = .returned (.agg (qe 8 zf)) ∧ w' = w.alloc (.cells (qe 8 zf) 81) := by
 go_enter Try.func78, Try.ntmps78
 go_step; go_step; go_step
 refine qM rfl 81 rfl _ jz ?_
 go_step; go_step; go_step; go_step; go_step
 refine zE rfl 81 _ rfl (qe 8 zf) (by kernel_rfl) ?_
 refine wpList_plain rfl fun _ hK => ?_
 refine wp_store_row 81 _ _ rfl w.heap.size (qe 8 zf) rfl rfl 81 (qe 8 fun _ => 0) (Blk.new w 81 _) (by simpa [qH] using jI) (by simp [qH]) (qP _ _) (hK _ _ ?_)
 rw [World.setRow_alloc_new]
 go_step; go_step; go_step; go_step
 exact bodyPost_ret (v := .agg (qe 8 zf)) (results_cell_row Try.results78 _ _ w.heap.size 81 _ (0, 0) _ rfl (heap_alloc_new _ _) Try.underlying81 rfl (by simpa [qH] using jI)) rfl ⟨rfl, rfl⟩
set_option maxRecDepth 10000 in
theorem Xl (w : World) :
  Calls Try.prog 43 #[] w fun e w' => e = .returned (.agg (qe 8 zf)) ∧ w' = w.alloc (.cells (qe 8 zf) 81) := by
 go_enter Try.func43, Try.ntmps43
 go_step; go_step; go_step
 refine qM rfl 81 rfl _ jz ?_
 go_step; go_step; go_step; go_step; go_step
 refine zE rfl 81 _ rfl (qe 8 zf) (by kernel_rfl) ?_
 refine wpList_plain rfl fun _ hK => ?_
 refine wp_store_row 81 _ _ rfl w.heap.size (qe 8 zf) rfl rfl 81 (qe 8 fun _ => 0) (Blk.new w 81 _) (by simpa [qH] using jI) (by simp [qH]) (qP _ _) (hK _ _ ?_)
 rw [World.setRow_alloc_new]
 go_step; go_step; go_step; go_step
 exact bodyPost_ret (v := .agg (qe 8 zf)) (results_cell_row Try.results43 _ _ w.heap.size 81 _ (0, 0) _ rfl (heap_alloc_new _ _) Try.underlying81 rfl (by simpa [qH] using jI)) rfl ⟨rfl, rfl⟩
set_option maxRecDepth 10000 in
theorem QL (w : World) :
  Calls Try.prog 90 #[] w fun e w' => e = .returned (.agg (qe 64 qu)) ∧ w' = w.alloc (.cells (qe 64 qu) 83) := by
 go_enter Try.func90, Try.ntmps90
 go_step; go_step; go_step
 refine qM rfl 83 rfl _ zN ?_
 go_step; go_step; go_step; go_step; go_step
 refine zE rfl 83 _ rfl (qe 64 qu) (by kernel_rfl) ?_
 refine wpList_plain rfl fun _ hK => ?_
 refine wp_store_row 83 _ _ rfl w.heap.size (qe 64 qu) rfl rfl 83 (qe 64 fun _ => 0) (Blk.new w 83 _) (by simpa [qH] using jH) (by simp [qH]) (qP _ _) (hK _ _ ?_)
 rw [World.setRow_alloc_new]
 go_step; go_step; go_step; go_step
 exact bodyPost_ret (v := .agg (qe 64 qu)) (results_cell_row Try.results90 _ _ w.heap.size 83 _ (0, 0) _ rfl (heap_alloc_new _ _) Try.underlying83 rfl (by simpa [qH] using jH)) rfl ⟨rfl, rfl⟩
set_option maxRecDepth 10000 in
theorem KJ (w : World) :
  Calls Try.prog 44 #[] w fun e w' => e = .returned (.agg (qe 64 qu)) ∧ w' = w.alloc (.cells (qe 64 qu) 83) := by
 go_enter Try.func44, Try.ntmps44
 go_step; go_step; go_step
 refine qM rfl 83 rfl _ zN ?_
 go_step; go_step; go_step; go_step; go_step
 refine zE rfl 83 _ rfl (qe 64 qu) (by kernel_rfl) ?_
 refine wpList_plain rfl fun _ hK => ?_
 refine wp_store_row 83 _ _ rfl w.heap.size (qe 64 qu) rfl rfl 83 (qe 64 fun _ => 0) (Blk.new w 83 _) (by simpa [qH] using jH) (by simp [qH]) (qP _ _) (hK _ _ ?_)
 rw [World.setRow_alloc_new]
 go_step; go_step; go_step; go_step
 exact bodyPost_ret (v := .agg (qe 64 qu)) (results_cell_row Try.results44 _ _ w.heap.size 83 _ (0, 0) _ rfl (heap_alloc_new _ _) Try.underlying83 rfl (by simpa [qH] using jH)) rfl ⟨rfl, rfl⟩
def YY (b : Nat → Int) (t : Nat) : Int :=
 bits .or .u32 (bits .or .u32 (bits .or .u32 (b (4 * t) % 4294967296 * 16777216 % 4294967296) (b (4 * t + 1) % 4294967296 * 65536 % 4294967296)) (b (4 * t + 2) % 4294967296 * 256 % 4294967296)) (b (4 * t + 3) % 4294967296)
def UY (x : Int) : Int := bits .xor .u32 (bits .xor .u32 (rot x 7) (rot x 18)) (x / 8)
def UX (x : Int) : Int := bits .xor .u32 (bits .xor .u32 (rot x 17) (rot x 19)) (x / 1024)
def KQ (c : Nat → Int) (t : Nat) : Int := (((c (t - 16) + UY (c (t - 15))) % 4294967296 + c (t - 7)) % 4294967296 + UX (c (t - 2))) % 4294967296
def qG (b : Nat → Int) : Nat → (Nat → Int)
 | 0 => fun _ => 0
 | t + 1 => upd (qG b t) t (if t < 16 then YY b t else KQ (qG b t) t)
set_option maxRecDepth 8000 in
set_option maxHeartbeats 2000000 in
theorem QH (b : Nat → Int) (w : World) :
  Calls Try.prog 91 #[.agg (qb 64 b)] w fun e w' => e = .returned (.agg (qe 64 (qG b 64))) ∧ Below w.heap.size w w' := by
 go_enter Try.func91, Try.ntmps91
 go_wp2_with (first | (refine zD rfl 118 _ rfl (qb 64 b) rfl ?_) | (refine qM rfl 83 rfl _ zN ?_))
 have hP := ((Blk.new w 118 (qb 64 b)).alloc (.cells (qe 64 fun _ => 0) 83)).alloc (.cells (qe 64 fun _ => 0) 83)
 have hR := (Blk.new (w.alloc (.cells (qb 64 b) 118)) 83 (qe 64 fun _ => 0)).alloc (.cells (qe 64 fun _ => 0) 83)
 have hW := (Blk.new ((w.alloc (.cells (qb 64 b) 118)).alloc (.cells (qe 64 fun _ => 0) 83)) 83 (qe 64 fun _ => 0))
 have hB : Below w.heap.size w (((w.alloc (.cells (qb 64 b) 118)).alloc (.cells (qe 64 fun _ => 0) 83)).alloc (.cells (qe 64 fun _ => 0) 83)) :=
  (((Below.refl _ _).alloc (Nat.le_refl _) _).alloc (by simp) _).alloc (by simp; omega) _
 simp only [World.size_alloc] at hR hW ⊢
 generalize (((w.alloc (.cells (qb 64 b) 118)).alloc (.cells (qe 64 fun _ => 0) 83)).alloc (.cells (qe 64 fun _ => 0) 83)) = w0 at *
 go_loopw [8] (fun i wr => ∃ t : Nat, t ≤ 16 ∧ i = .int .i64 t ∧ Blk wr w.heap.size 118 (qb 64 b) ∧ Blk wr (w.heap.size + 1) 83 (qe 64 fun _ => 0) ∧ Blk wr (w.heap.size + 1 + 1) 83 (qe 64 (qG b t)) ∧ Below w.heap.size w wr) (fun i _ => 16 - (intOf i).toNat)
 case atStart => exact ⟨0, by omega, rfl, hP, hR, hW, hB⟩
 case round =>
  clear hP hR hW hB
  obtain ⟨t, ht, rfl, hP, hR, hW, hB⟩ := hrel
  by_cases hlt : t < 16
  ·have e0 : wr.cell? ⟨w.heap.size, 4 * t, none⟩ = some (.int .u8 (b (4 * t))) := by rw [hP.cell, qN _ _ _ (by omega)]
   have e1 : wr.cell? ⟨w.heap.size, 4 * t + 1, none⟩ = some (.int .u8 (b (4 * t + 1))) := by rw [hP.cell, qN _ _ _ (by omega)]
   have e2 : wr.cell? ⟨w.heap.size, 4 * t + 2, none⟩ = some (.int .u8 (b (4 * t + 2))) := by rw [hP.cell, qN _ _ _ (by omega)]
   have e3 : wr.cell? ⟨w.heap.size, 4 * t + 3, none⟩ = some (.int .u8 (b (4 * t + 3))) := by rw [hP.cell, qN _ _ _ (by omega)]
   have e4 : wr.cell? ⟨w.heap.size + 1 + 1, t, none⟩ = some (.int .u32 (qG b t t)) := by rw [hW.cell, qr _ _ _ (by omega)]
   have e5 : wr.frozen? ⟨w.heap.size + 1 + 1, t, none⟩ = false := hW.frozen t
   go_wp2
   go_region
   go_wp2
   go_roundw
   case rel => exact ⟨t + 1, by omega, by go_num, (hP.set_ne (by omega) _).drew, (hR.set_ne (by omega) _).drew, by
    have h := (hW.set t (.int .u32 (YY b t))).drew
    rw [jA] at h
    simp only [qG, if_pos hlt]; exact h, (hB.setCell (by show w.heap.size ≤ w.heap.size + 1 + 1; omega) _).drew⟩
   case measure => simp [intOf]; omega
  ·obtain rfl : t = 16 := by omega
   clear hlt ht
   go_wp2
   go_loopw [5] (fun i wr => ∃ t : Nat, 16 ≤ t ∧ t ≤ 64 ∧ i = .int .i64 t ∧ Blk wr (w.heap.size + 1) 83 (qe 64 fun _ => 0) ∧ Blk wr (w.heap.size + 1 + 1) 83 (qe 64 (qG b t)) ∧ Below w.heap.size w wr) (fun i _ => 64 - (intOf i).toNat)
   case atStart => exact ⟨16, by omega, by omega, rfl, hR, hW, hB⟩
   case round =>
    clear hP hR hW hB
    obtain ⟨t, ht0, ht, rfl, hR, hW, hB⟩ := hrel
    by_cases hlt : t < 64
    ·have e16 : wr.cell? ⟨w.heap.size + 1 + 1, t - 16, none⟩ = some (.int .u32 (qG b t (t - 16))) := by rw [hW.cell, qr _ _ _ (by omega)]
     have e15 : wr.cell? ⟨w.heap.size + 1 + 1, t - 15, none⟩ = some (.int .u32 (qG b t (t - 15))) := by rw [hW.cell, qr _ _ _ (by omega)]
     have e7 : wr.cell? ⟨w.heap.size + 1 + 1, t - 7, none⟩ = some (.int .u32 (qG b t (t - 7))) := by rw [hW.cell, qr _ _ _ (by omega)]
     have e2 : wr.cell? ⟨w.heap.size + 1 + 1, t - 2, none⟩ = some (.int .u32 (qG b t (t - 2))) := by rw [hW.cell, qr _ _ _ (by omega)]
     have e0 : wr.cell? ⟨w.heap.size + 1 + 1, t, none⟩ = some (.int .u32 (qG b t t)) := by rw [hW.cell, qr _ _ _ (by omega)]
     have ef : wr.frozen? ⟨w.heap.size + 1 + 1, t, none⟩ = false := hW.frozen t
     have hlt' : (t : Int) < 64 := by omega
     have ht0' : (16 : Int) ≤ (t : Int) := by omega
     have w16 : IntKind.i64.wrap ((t : Int) - 16) = (t : Int) - 16 := by rw [IntKind.wrap_i64]; omega
     have w7 : IntKind.i64.wrap ((t : Int) - 7) = (t : Int) - 7 := by rw [IntKind.wrap_i64]; omega
     have n16 : ((t : Int) - 16).toNat = t - 16 := by omega
     have n7 : ((t : Int) - 7).toNat = t - 7 := by omega
     have g16 : 0 ≤ (t : Int) - 16 := by omega
     have g7 : 0 ≤ (t : Int) - 7 := by omega
     have l16 : (t : Int) - 16 < 64 := by omega
     have l7 : (t : Int) - 7 < 64 := by omega
     have h7 : (7 : Int) ≤ (t : Int) := by omega
     have k16 : ∀ v, (wr.setCell ⟨w.heap.size + 1 + 1, t, none⟩ v).cell? ⟨w.heap.size + 1 + 1, t - 16, none⟩ = some (.int .u32 (qG b t (t - 16))) := fun v => by rw [World.cell?_setCell_other _ _ _ _ (by intro e; injection e; omega)]; exact e16
     have k7 : ∀ v, (wr.setCell ⟨w.heap.size + 1 + 1, t, none⟩ v).cell? ⟨w.heap.size + 1 + 1, t - 7, none⟩ = some (.int .u32 (qG b t (t - 7))) := fun v => by rw [World.cell?_setCell_other _ _ _ _ (by intro e; injection e; omega)]; exact e7
     go_wp2
     go_region
     go_wp2
     go_region_held3 (fun w' => w'.cell? ⟨w.heap.size + 1 + 1, t - 16, none⟩ = some (.int .u32 (qG b t (t - 16))) ∧ w'.cell? ⟨w.heap.size + 1 + 1, t - 7, none⟩ = some (.int .u32 (qG b t (t - 7)))) (go_keep) (first | (go_at_call 92; refine (vK _ _ _ (by omega) (by omega)).mono ?_; rintro e w' ⟨rfl, rfl⟩))
     go_wp2
     go_roundw
     case rel =>
      go_tidy
      simp only [IntKind.wrap_u32']
      repeat apply Exists.intro
      refine ⟨?_, rfl⟩
      exact ⟨t + 1, by omega, by omega, by go_num, (hR.set_ne (by omega) _).drew.drew, by
       have h := (hW.set t (.int .u32 (KQ (qG b t) t))).drew.drew
       rw [jA] at h
       simp only [qG, if_neg (show ¬ t < 16 by omega)]; exact h, (hB.setCell (by show w.heap.size ≤ w.heap.size + 1 + 1; omega) _).drew.drew⟩
     case measure => simp [intOf]; omega
    ·obtain rfl : t = 64 := by omega
     clear hlt ht ht0
     obtain ⟨c, hc⟩ : ∃ c, Hid (c = qG b 64) := ⟨_, rfl⟩
     rw [← hc.out] at hW
     go_wp2_with (refine wpList_load_row rfl 83 (.tmp 3) rfl (w.heap.size + 1 + 1) rfl 83 (qe 64 c) (0, 0) (.array 64 80) hW Try.underlying83 rfl (zh _) ?_; refine wpList_store_row rfl 83 (.tmp 2) (.tmp 84) rfl (w.heap.size + 1) (qe 64 c) rfl rfl 83 (qe 64 fun _ => 0) hR (zh _) (qW _ _ _) (qP _ _) ?_)
     exact bodyPost_ret (v := .agg (qe 64 c)) (results_cell_row Try.results91 _ _ (w.heap.size + 1) 83 _ (0, 0) _ rfl (hR.setRow _) Try.underlying83 rfl (zh _)) rfl ⟨by rw [hc.out], qf hB (by omega) _⟩
structure MixJ (N : Nat) (w0 : World) (s b : Nat → Int) (w : World) (b0 b1 b2 b3 b4 b5 b6 : Bool) (v5 v6 v18 v19 v20 : Value) : Prop where
 below : Below N w0 w
 hN : N + 3 ≤ w.heap.size
 k0 : Blk w N 81 (qe 8 s)
 k1 : Blk w (N + 1) 118 (qb 64 b)
 k2 : Blk w (N + 1 + 1) 81 (qe 8 fun _ => 0)
 e18 : b0 = true → v18 = .agg (qe 64 qu)
 e19 : b1 = true → v19 = .agg (qb 64 b)
 e20 : b2 = true → v20 = .agg (qe 64 (qG b 64))
 e5 : b3 = true → ∃ g c, v5 = ptr g ∧ N + 3 ≤ g ∧ Blk w g 83 (qe 64 c) ∧ (b5 = true → c = qu)
 e6 : b4 = true → ∃ g c, v6 = ptr g ∧ N + 3 ≤ g ∧ Blk w g 83 (qe 64 c) ∧ (b6 = true → c = qG b 64)
 ne : b3 = true → b4 = true → v5 ≠ v6
 w5 : b5 = true → b3 = true
 w6 : b6 = true → b4 = true
theorem MixJ.later {N : Nat} {w0 : World} {s b : Nat → Int} {w w' : World} {b0 b1 b2 b3 b4 b5 b6 : Bool} {v5 v6 v18 v19 v20 : Value}
  (h : MixJ N w0 s b w b0 b1 b2 b3 b4 b5 b6 v5 v6 v18 v19 v20) (hb : Below w.heap.size w w') : MixJ N w0 s b w' b0 b1 b2 b3 b4 b5 b6 v5 v6 v18 v19 v20 where
 below := h.below.trans (hb.mono (by have := h.hN; omega))
 hN := Nat.le_trans h.hN hb.size
 k0 := h.k0.below hb h.k0.lt
 k1 := h.k1.below hb h.k1.lt
 k2 := h.k2.below hb h.k2.lt
 e18 := h.e18
 e19 := h.e19
 e20 := h.e20
 e5 h3 := by obtain ⟨g, c, h1, h2, h3, h4⟩ := h.e5 h3; exact ⟨g, c, h1, h2, h3.below hb h3.lt, h4⟩
 e6 h3 := by obtain ⟨g, c, h1, h2, h3, h4⟩ := h.e6 h3; exact ⟨g, c, h1, h2, h3.below hb h3.lt, h4⟩
 ne := h.ne
 w5 := h.w5
 w6 := h.w6
theorem MixJ.new3 {N : Nat} {w0 : World} {s b : Nat → Int} {w : World} {b0 b1 b2 b4 b5 b6 : Bool} {v5 v6 v18 v19 v20 : Value}
  (h : MixJ N w0 s b w b0 b1 b2 false b4 b5 b6 v5 v6 v18 v19 v20) :
  MixJ N w0 s b (w.alloc (.cells (qe 64 fun _ => 0) 83)) b0 b1 b2 true b4 b5 b6 (ptr w.heap.size) v6 v18 v19 v20 :=
 { h.later (qg w _) with
  e5 := fun _ => ⟨w.heap.size, _, rfl, h.hN, Blk.new _ _ _, fun e => by have := h.w5 e; simp at this⟩
  w5 := fun _ => rfl
  ne := fun _ h4 => by
   obtain ⟨g, c, h1, h2, h3, h4⟩ := h.e6 h4
   have := h3.lt
   rw [h1]; intro e; simp at e; try omega }
theorem MixJ.new4 {N : Nat} {w0 : World} {s b : Nat → Int} {w : World} {b0 b1 b2 b3 b5 b6 : Bool} {v5 v6 v18 v19 v20 : Value}
  (h : MixJ N w0 s b w b0 b1 b2 b3 false b5 b6 v5 v6 v18 v19 v20) :
  MixJ N w0 s b (w.alloc (.cells (qe 64 fun _ => 0) 83)) b0 b1 b2 b3 true b5 b6 v5 (ptr w.heap.size) v18 v19 v20 :=
 { h.later (qg w _) with
  e6 := fun _ => ⟨w.heap.size, _, rfl, h.hN, Blk.new _ _ _, fun e => by have := h.w6 e; simp at this⟩
  w6 := fun _ => rfl
  ne := fun h3 _ => by
   obtain ⟨g, c, h1, h2, h3, h4⟩ := h.e5 h3
   have := h3.lt
   rw [h1]; intro e; simp at e; try omega }
theorem MixJ.store5 {N : Nat} {w0 : World} {s b : Nat → Int} {w : World} {b0 b1 b2 b4 b5 b6 : Bool} {g : Nat} {c : Nat → Int} {v6 v18 v19 v20 : Value}
  (h : MixJ N w0 s b w b0 b1 b2 true b4 b5 b6 (ptr g) v6 v18 v19 v20) (hg : N + 3 ≤ g) (hb : Blk w g 83 (qe 64 c)) :
  MixJ N w0 s b (w.setRow g (qe 64 qu)) b0 b1 b2 true b4 true b6 (ptr g) v6 v18 v19 v20 :=
 { h with
  below := qf h.below (by omega) _
  hN := by rw [setRow_size]; exact h.hN
  k0 := h.k0.setRow_ne (by omega) _
  k1 := h.k1.setRow_ne (by omega) _
  k2 := h.k2.setRow_ne (by omega) _
  e5 := fun _ => ⟨g, qu, rfl, hg, hb.setRow _, fun _ => rfl⟩
  w5 := fun _ => rfl
  e6 := fun h4 => by
   obtain ⟨g', c', h1, h2, h3, h5⟩ := h.e6 h4
   exact ⟨g', c', h1, h2, h3.setRow_ne (fun e => h.ne rfl h4 (by rw [h1, e])) _, h5⟩ }
theorem MixJ.store6 {N : Nat} {w0 : World} {s b : Nat → Int} {w : World} {b0 b1 b2 b3 b5 b6 : Bool} {g : Nat} {c : Nat → Int} {v5 v18 v19 v20 : Value}
  (h : MixJ N w0 s b w b0 b1 b2 b3 true b5 b6 v5 (ptr g) v18 v19 v20) (hg : N + 3 ≤ g) (hb : Blk w g 83 (qe 64 c)) :
  MixJ N w0 s b (w.setRow g (qe 64 (qG b 64))) b0 b1 b2 b3 true b5 true v5 (ptr g) v18 v19 v20 :=
 { h with
  below := qf h.below (by omega) _
  hN := by rw [setRow_size]; exact h.hN
  k0 := h.k0.setRow_ne (by omega) _
  k1 := h.k1.setRow_ne (by omega) _
  k2 := h.k2.setRow_ne (by omega) _
  e6 := fun _ => ⟨g, qG b 64, rfl, hg, hb.setRow _, fun _ => rfl⟩
  w6 := fun _ => rfl
  e5 := fun h4 => by
   obtain ⟨g', c', h1, h2, h3, h5⟩ := h.e5 h4
   exact ⟨g', c', h1, h2, h3.setRow_ne (fun e => h.ne h4 rfl (by rw [h1, e])) _, h5⟩ }
def fr5 (a0 : Act) (v5 v6 v18 v19 v20 : Value) : Act := ((((a0.put (some 5) v5).put (some 6) v6).put (some 18) v18).put (some 19) v19).put (some 20) v20
theorem KM (a : Act) (v : Value) : a.put none v = a := rfl
theorem yz (a : Act) (d : Nat) (v u : Value) : (a.put (some d) v).put (some d) u = a.put (some d) u := by
 simp [Act.put]
theorem zS (a : Act) (d e : Nat) (v u : Value) (h : d ≠ e) : (a.put (some d) v).put (some e) u = (a.put (some e) u).put (some d) v :=
 Act.put_comm a v u (fun x hx => by injection hx with hx; subst hx; simpa using Ne.symm h)
theorem jV (a : Act) (d : Nat) (v : Value) (h : d < a.tmps.size) : (a.put (some d) v).eval (.tmp d) = v := by
 simp [Act.put, Act.eval, Array.getD, h]
theorem qZ (a : Act) (d j : Nat) (v : Value) (h : d ≠ j) : (a.put (some d) v).eval (.tmp j) = a.eval (.tmp j) :=
 Act.eval_put (fun x hx => by injection hx with hx; subst hx; simpa using Ne.symm h)
theorem zQ (a : Act) (d : Option Tmp) (v : Value) : (a.put d v).tmps.size = a.tmps.size := by cases d <;> simp [Act.put]
theorem GF (a0 : Act) (v5 v6 v18 v19 v20 u : Value) : (fr5 a0 v5 v6 v18 v19 v20).put (some 5) u = fr5 a0 u v6 v18 v19 v20 := by
 unfold fr5
 rw [zS _ 20 5 _ _ (by decide), zS _ 19 5 _ _ (by decide), zS _ 18 5 _ _ (by decide), zS _ 6 5 _ _ (by decide), yz]
theorem GE (a0 : Act) (v5 v6 v18 v19 v20 u : Value) : (fr5 a0 v5 v6 v18 v19 v20).put (some 6) u = fr5 a0 v5 u v18 v19 v20 := by
 unfold fr5
 rw [zS _ 20 6 _ _ (by decide), zS _ 19 6 _ _ (by decide), zS _ 18 6 _ _ (by decide), yz]
theorem Vx (a0 : Act) (v5 v6 v18 v19 v20 u : Value) : (fr5 a0 v5 v6 v18 v19 v20).put (some 18) u = fr5 a0 v5 v6 u v19 v20 := by
 unfold fr5
 rw [zS _ 20 18 _ _ (by decide), zS _ 19 18 _ _ (by decide), yz]
theorem Vw (a0 : Act) (v5 v6 v18 v19 v20 u : Value) : (fr5 a0 v5 v6 v18 v19 v20).put (some 19) u = fr5 a0 v5 v6 v18 u v20 := by
 unfold fr5
 rw [zS _ 20 19 _ _ (by decide), yz]
theorem Vu (a0 : Act) (v5 v6 v18 v19 v20 u : Value) : (fr5 a0 v5 v6 v18 v19 v20).put (some 20) u = fr5 a0 v5 v6 v18 v19 u := by
 unfold fr5
 rw [yz]
theorem GI (a0 : Act) (v5 v6 v18 v19 v20 : Value) : (fr5 a0 v5 v6 v18 v19 v20).eval (.tmp 3) = a0.eval (.tmp 3) := by
 unfold fr5
 rw [qZ _ 20 3 _ (by decide), qZ _ 19 3 _ (by decide), qZ _ 18 3 _ (by decide), qZ _ 6 3 _ (by decide), qZ _ 5 3 _ (by decide)]
theorem GH (a0 : Act) (v5 v6 v18 v19 v20 : Value) (h : 20 < a0.tmps.size) : (fr5 a0 v5 v6 v18 v19 v20).eval (.tmp 5) = v5 := by
 unfold fr5
 rw [qZ _ 20 5 _ (by decide), qZ _ 19 5 _ (by decide), qZ _ 18 5 _ (by decide), qZ _ 6 5 _ (by decide), jV _ _ _ (by omega)]
theorem GG (a0 : Act) (v5 v6 v18 v19 v20 : Value) (h : 20 < a0.tmps.size) : (fr5 a0 v5 v6 v18 v19 v20).eval (.tmp 6) = v6 := by
 unfold fr5
 rw [qZ _ 20 6 _ (by decide), qZ _ 19 6 _ (by decide), qZ _ 18 6 _ (by decide), jV _ _ _ (by rw [zQ]; omega)]
theorem VA (a0 : Act) (v5 v6 v18 v19 v20 : Value) (h : 20 < a0.tmps.size) : (fr5 a0 v5 v6 v18 v19 v20).eval (.tmp 18) = v18 := by
 unfold fr5
 rw [qZ _ 20 18 _ (by decide), qZ _ 19 18 _ (by decide), jV _ _ _ (by rw [zQ, zQ]; omega)]
theorem Vz (a0 : Act) (v5 v6 v18 v19 v20 : Value) (h : 20 < a0.tmps.size) : (fr5 a0 v5 v6 v18 v19 v20).eval (.tmp 19) = v19 := by
 unfold fr5
 rw [qZ _ 20 19 _ (by decide), jV _ _ _ (by rw [zQ, zQ, zQ]; omega)]
theorem Vy (a0 : Act) (v5 v6 v18 v19 v20 : Value) (h : 20 < a0.tmps.size) : (fr5 a0 v5 v6 v18 v19 v20).eval (.tmp 20) = v20 := by
 unfold fr5
 rw [jV _ _ _ (by rw [zQ, zQ, zQ, zQ]; omega)]
def mo0 (q : String) : Oper := { dst := some 18, op := Op.call { callee := Callee.value (Operand.func 90), args := #[], argTypes := #[] }, type := 83, pos := q, after := #[], guard := none }
def mo1 (q : String) : Oper := { dst := some 19, op := Op.load 118 (Operand.tmp 3), type := 118, pos := q, after := #[], guard := none }
def mo2 (q : String) : Oper := { dst := some 20, op := Op.call { callee := Callee.value (Operand.func 91), args := #[Operand.tmp 19], argTypes := #[118] }, type := 83, pos := q, after := #[{ on := 1, ground := Ground.data }, { on := 0, ground := Ground.chain }], guard := none }
def mo3 (q : String) : Oper := { dst := some 5, op := Op.alloc 83, type := 0, pos := q, after := #[], guard := none }
def mo4 (q : String) : Oper := { dst := some 6, op := Op.alloc 83, type := 0, pos := q, after := #[], guard := none }
def mo5 (q : String) : Oper := { dst := none, op := Op.store 83 (Operand.tmp 5) (Operand.tmp 18), type := 0, pos := q, after := #[{ on := 3, ground := Ground.data }, { on := 0, ground := Ground.data }, { on := 2, ground := Ground.chain }, { on := 0, ground := Ground.phase }, { on := 1, ground := Ground.textOnly Departure.lateStores }, { on := 2, ground := Ground.textOnly Departure.lateStoresUnsure }, { on := 3, ground := Ground.phase }, { on := 4, ground := Ground.phase }], guard := none }
def mo6 (q : String) : Oper := { dst := none, op := Op.store 83 (Operand.tmp 6) (Operand.tmp 20), type := 0, pos := q, after := #[{ on := 4, ground := Ground.data }, { on := 2, ground := Ground.data }, { on := 5, ground := Ground.chain }, { on := 0, ground := Ground.phase }, { on := 1, ground := Ground.phase }, { on := 2, ground := Ground.phase }, { on := 3, ground := Ground.phase }, { on := 4, ground := Ground.phase }, { on := 5, ground := Ground.phase }], guard := none }
def Ja (N : Nat) (w : World) (s b : Nat → Int) (a0 : Act) (l : Array Bool) (a : Act) (wc : World) : Prop :=
 ∃ b0 b1 b2 b3 b4 b5 b6 : Bool, l = #[b0, b1, b2, b3, b4, b5, b6] ∧ ∃ v5 v6 v18 v19 v20, a = fr5 a0 v5 v6 v18 v19 v20 ∧ MixJ N w s b wc b0 b1 b2 b3 b4 b5 b6 v5 v6 v18 v19 v20
section
variable {N : Nat} {w wc : World} {s b : Nat → Int} {a0 : Act} {b0 b1 b2 b3 b4 b5 b6 : Bool} {v5 v6 v18 v19 v20 : Value} {Q : Exit → Act → World → Prop}
theorem Gz {o : Oper} (ho : o.op = .call { callee := .value (.func 90), args := #[], argTypes := #[] }) (hd : o.dst = some 18) (hJ : MixJ N w s b wc b0 b1 b2 b3 b4 b5 b6 v5 v6 v18 v19 v20) :
  o.wp Try.prog (fr5 a0 v5 v6 v18 v19 v20) wc (Ja N w s b a0 #[true, b1, b2, b3, b4, b5, b6]) Q :=
 qz 90 #[] #[] ho QA #[] (by simp) (fun v w' => v = .agg (qe 64 qu) ∧ w' = wc.alloc (.cells (qe 64 qu) 83))
  ((QL wc).mono (by rintro e w' ⟨rfl, rfl⟩; exact ⟨_, rfl, rfl, rfl⟩))
  (by rintro v w' ⟨rfl, rfl⟩; rw [hd]; exact ⟨true, b1, b2, b3, b4, b5, b6, rfl, v5, v6, _, v19, v20, Vx _ _ _ _ _ _ _, { hJ.later (qg wc _) with e18 := fun _ => rfl }⟩)
theorem Gy {o : Oper} (ho : o.op = .load 118 (.tmp 3)) (hd : o.dst = some 19) (h3 : a0.eval (.tmp 3) = ptr (N + 1)) (hJ : MixJ N w s b wc b0 b1 b2 b3 b4 b5 b6 v5 v6 v18 v19 v20) :
  o.wp Try.prog (fr5 a0 v5 v6 v18 v19 v20) wc (Ja N w s b a0 #[b0, true, b2, b3, b4, b5, b6]) Q :=
 wp_load_row 118 (.tmp 3) ho (N + 1) (by rw [GI]; exact h3) 118 (qb 64 b) (0, 0) (.array 64 5) hJ.k1 Try.underlying118 rfl (yM _)
  (by rw [hd]; exact ⟨b0, true, b2, b3, b4, b5, b6, rfl, v5, v6, v18, _, v20, Vw _ _ _ _ _ _ _, { hJ with e19 := fun _ => rfl }⟩)
theorem Gx {o : Oper} (ho : o.op = .call { callee := .value (.func 91), args := #[.tmp 19], argTypes := #[118] }) (hd : o.dst = some 20) (hsz : 20 < a0.tmps.size) (hJ : MixJ N w s b wc b0 true b2 b3 b4 b5 b6 v5 v6 v18 v19 v20) :
  o.wp Try.prog (fr5 a0 v5 v6 v18 v19 v20) wc (Ja N w s b a0 #[b0, true, true, b3, b4, b5, b6]) Q :=
 qz 91 #[.tmp 19] #[118] ho Qz #[.agg (qb 64 b)] (by rw [hJ.e19 rfl]; simp only [List.map_toArray, List.map_cons, List.map_nil, Vz _ _ _ _ _ _ hsz])
  (fun v w' => v = .agg (qe 64 (qG b 64)) ∧ Below wc.heap.size wc w') ((QH b wc).mono (by rintro e w' ⟨rfl, hb⟩; exact ⟨_, rfl, rfl, hb⟩))
  (by rintro v w' ⟨rfl, hb⟩; rw [hd]; exact ⟨b0, true, true, b3, b4, b5, b6, rfl, v5, v6, v18, _, _, Vu _ _ _ _ _ _ _, { hJ.later hb with e20 := fun _ => rfl }⟩)
theorem Gw {o : Oper} (ho : o.op = .alloc 83) (hd : o.dst = some 5) (hJ : MixJ N w s b wc b0 b1 b2 false b4 b5 b6 v5 v6 v18 v19 v20) :
  o.wp Try.prog (fr5 a0 v5 v6 v18 v19 v20) wc (Ja N w s b a0 #[b0, b1, b2, true, b4, b5, b6]) Q :=
 Zi 83 ho _ zN (by rw [hd]; exact ⟨b0, b1, b2, true, b4, b5, b6, rfl, _, v6, v18, v19, v20, GF _ _ _ _ _ _ _, hJ.new3⟩)
theorem Gv {o : Oper} (ho : o.op = .alloc 83) (hd : o.dst = some 6) (hJ : MixJ N w s b wc b0 b1 b2 b3 false b5 b6 v5 v6 v18 v19 v20) :
  o.wp Try.prog (fr5 a0 v5 v6 v18 v19 v20) wc (Ja N w s b a0 #[b0, b1, b2, b3, true, b5, b6]) Q :=
 Zi 83 ho _ zN (by rw [hd]; exact ⟨b0, b1, b2, b3, true, b5, b6, rfl, v5, _, v18, v19, v20, GE _ _ _ _ _ _ _, hJ.new4⟩)
theorem Gu {o : Oper} (ho : o.op = .store 83 (.tmp 5) (.tmp 18)) (hd : o.dst = none) (hsz : 20 < a0.tmps.size) (hJ : MixJ N w s b wc true b1 b2 true b4 b5 b6 v5 v6 v18 v19 v20) :
  o.wp Try.prog (fr5 a0 v5 v6 v18 v19 v20) wc (Ja N w s b a0 #[true, b1, b2, true, b4, true, b6]) Q := by
 obtain rfl := hJ.e18 rfl
 obtain ⟨g, c, rfl, hg, hb, _⟩ := hJ.e5 rfl
 exact wp_store_row 83 (.tmp 5) (.tmp 18) ho g (qe 64 qu) (GH _ _ _ _ _ _ hsz) (VA _ _ _ _ _ _ hsz) 83 (qe 64 c) hb (zh _) (qW _ _ _) (qP _ _)
  (by rw [hd]; exact ⟨true, b1, b2, true, b4, true, b6, rfl, ptr g, v6, .agg (qe 64 qu), v19, v20, KM _ _, hJ.store5 hg hb⟩)
theorem Gt {o : Oper} (ho : o.op = .store 83 (.tmp 6) (.tmp 20)) (hd : o.dst = none) (hsz : 20 < a0.tmps.size) (hJ : MixJ N w s b wc b0 b1 true b3 true b5 b6 v5 v6 v18 v19 v20) :
  o.wp Try.prog (fr5 a0 v5 v6 v18 v19 v20) wc (Ja N w s b a0 #[b0, b1, true, b3, true, b5, true]) Q := by
 obtain rfl := hJ.e20 rfl
 obtain ⟨g, c, rfl, hg, hb, _⟩ := hJ.e6 rfl
 exact wp_store_row 83 (.tmp 6) (.tmp 20) ho g (qe 64 (qG b 64)) (GG _ _ _ _ _ _ hsz) (Vy _ _ _ _ _ _ hsz) 83 (qe 64 c) hb (zh _) (qW _ _ _) (qP _ _)
  (by rw [hd]; exact ⟨b0, b1, true, b3, true, b5, true, rfl, v5, ptr g, v18, v19, .agg (qe 64 (qG b 64)), KM _ _, hJ.store6 hg hb⟩)
end
theorem ZN (q : String) {N : Nat} {w : World} {s b : Nat → Int} {a0 : Act} {Q : Exit → Act → World → Prop} (hsz : 20 < a0.tmps.size) (h3 : a0.eval (.tmp 3) = ptr (N + 1))
  (l : Array Bool) (a : Act) (wc : World) (i : Nat) (o : Oper) (hI : Ja N w s b a0 l a wc) (hi : l.getD i true = false) (ho : (#[mo0 q, mo1 q, mo2 q, mo3 q, mo4 q, mo5 q, mo6 q] : Array Oper)[i]? = some o)
  (he : ∀ e ∈ o.after, Region.binds .any e = true → l.getD e.on false = true) :
  o.guard = none ∧ o.wp Try.prog a wc (Ja N w s b a0 (l.setIfInBounds i true)) Q := by
 obtain ⟨b0, b1, b2, b3, b4, b5, b6, rfl, v5, v6, v18, v19, v20, rfl, hJ⟩ := hI
 match i, hi, ho with
 | 0, hi, ho =>
  have e : mo0 q = o := Option.some.inj ho
  exact ⟨by rw [← e]; rfl, Gz (by rw [← e]; rfl) (by rw [← e]; rfl) hJ⟩
 | 1, hi, ho =>
  have e : mo1 q = o := Option.some.inj ho
  exact ⟨by rw [← e]; rfl, Gy (by rw [← e]; rfl) (by rw [← e]; rfl) h3 hJ⟩
 | 2, hi, ho =>
  have e : mo2 q = o := Option.some.inj ho
  obtain rfl : b1 = true := he ⟨1, .data⟩ (by rw [← e]; simp [mo2]) rfl
  exact ⟨by rw [← e]; rfl, Gx (by rw [← e]; rfl) (by rw [← e]; rfl) hsz hJ⟩
 | 3, hi, ho =>
  have e : mo3 q = o := Option.some.inj ho
  obtain rfl : b3 = false := hi
  exact ⟨by rw [← e]; rfl, Gw (by rw [← e]; rfl) (by rw [← e]; rfl) hJ⟩
 | 4, hi, ho =>
  have e : mo4 q = o := Option.some.inj ho
  obtain rfl : b4 = false := hi
  exact ⟨by rw [← e]; rfl, Gv (by rw [← e]; rfl) (by rw [← e]; rfl) hJ⟩
 | 5, hi, ho =>
  have e : mo5 q = o := Option.some.inj ho
  obtain rfl : b0 = true := he ⟨0, .data⟩ (by rw [← e]; simp [mo5]) rfl
  obtain rfl : b3 = true := he ⟨3, .data⟩ (by rw [← e]; simp [mo5]) rfl
  exact ⟨by rw [← e]; rfl, Gu (by rw [← e]; rfl) (by rw [← e]; rfl) hsz hJ⟩
 | 6, hi, ho =>
  have e : mo6 q = o := Option.some.inj ho
  obtain rfl : b2 = true := he ⟨2, .data⟩ (by rw [← e]; simp [mo6]) rfl
  obtain rfl : b4 = true := he ⟨4, .data⟩ (by rw [← e]; simp [mo6]) rfl
  exact ⟨by rw [← e]; rfl, Gt (by rw [← e]; rfl) (by rw [← e]; rfl) hsz hJ⟩
 | n + 7, hi, ho => simp at ho
theorem ZO (q : String) (i : Nat) (o : Oper) (ho : (#[mo0 q, mo1 q, mo2 q, mo3 q, mo4 q, mo5 q, mo6 q] : Array Oper)[i]? = some o) (e : Edge) (he : e ∈ o.after) (_ : Region.binds .any e = true) : e.on < i := by
 match i, ho with
 | 0, ho => obtain rfl : mo0 q = o := Option.some.inj ho; simp [mo0] at he
 | 1, ho => obtain rfl : mo1 q = o := Option.some.inj ho; simp [mo1] at he
 | 2, ho => obtain rfl : mo2 q = o := Option.some.inj ho; simp [mo2] at he; rcases he with rfl | rfl <;> decide
 | 3, ho => obtain rfl : mo3 q = o := Option.some.inj ho; simp [mo3] at he
 | 4, ho => obtain rfl : mo4 q = o := Option.some.inj ho; simp [mo4] at he
 | 5, ho => obtain rfl : mo5 q = o := Option.some.inj ho; simp [mo5] at he; rcases he with rfl | rfl | rfl | rfl | rfl | rfl | rfl | rfl <;> decide
 | 6, ho => obtain rfl : mo6 q = o := Option.some.inj ho; simp [mo6] at he; rcases he with rfl | rfl | rfl | rfl | rfl | rfl | rfl | rfl | rfl <;> decide
 | n + 7, ho => simp at ho
theorem KR (q : String) (N : Nat) (w w0 : World) (s b : Nat → Int) (a0 : Act) (hsz : 20 < a0.tmps.size) (h3 : a0.eval (.tmp 3) = ptr (N + 1))
  (hu : a0 = fr5 a0 undef undef undef undef undef) (hJ0 : MixJ N w s b w0.drew false false false false false false false undef undef undef undef undef)
  (Q : Exit → Act → World → Prop)
  (hQ : ∀ (g k : Nat) (v18 v19 v20 : Value) (wc : World), N + 3 ≤ g → N + 3 ≤ k → g ≠ k → Blk wc g 83 (qe 64 qu) → Blk wc k 83 (qe 64 (qG b 64)) →
   Blk wc N 81 (qe 8 s) → Blk wc (N + 1 + 1) 81 (qe 8 fun _ => 0) → Below N w wc → Q .normal (fr5 a0 (ptr g) (ptr k) v18 v19 v20) wc) :
  (Code.region 1 #[mo0 q, mo1 q, mo2 q, mo3 q, mo4 q, mo5 q, mo6 q] true).wp Try.prog Q a0 w0 := by
 refine ya (by kernel_rfl) (Ja N w s b a0) ?_ (ZN q hsz h3) (ZO q) ?_ ?_
 ·rintro _ _ _ ⟨b0, b1, b2, b3, b4, b5, b6, rfl, _⟩; rfl
 ·rintro _ _ wc ⟨b0, b1, b2, b3, b4, b5, b6, rfl, v5, v6, v18, v19, v20, rfl, hJ⟩ hall
  have q3 : b3 = true := hall 3 (by simp)
  have q4 : b4 = true := hall 4 (by simp)
  have q5 : b5 = true := hall 5 (by simp)
  have q6 : b6 = true := hall 6 (by simp)
  obtain ⟨g, c, rfl, hg, hb, hc⟩ := hJ.e5 q3
  obtain ⟨k, d, rfl, hk, hd, hdd⟩ := hJ.e6 q4
  obtain rfl := hc q5
  obtain rfl := hdd q6
  exact hQ g k v18 v19 v20 wc hg hk (fun e => hJ.ne q3 q4 (by rw [e])) hb hd hJ.k0 hJ.k2 hJ.below
 ·exact ⟨false, false, false, false, false, false, false, rfl, _, _, _, _, _, hu, hJ0⟩
structure R8 where
 a : Int
 b : Int
 c : Int
 d : Int
 e : Int
 f : Int
 g : Int
 h : Int
def DQ (x : Int) : Int := bits .xor .u32 (bits .xor .u32 (rot x 6) (rot x 11)) (rot x 25)
def DR (x : Int) : Int := bits .xor .u32 (bits .xor .u32 (rot x 2) (rot x 13)) (rot x 22)
def chF (e f g : Int) : Int := bits .xor .u32 (bits .and .u32 e f) (bits .and .u32 (bits .xor .u32 4294967295 e) g)
def DD (a b c : Int) : Int := bits .xor .u32 (bits .xor .u32 (bits .and .u32 a b) (bits .and .u32 a c)) (bits .and .u32 b c)
def uF (k w : Int) (r : R8) : Int := (r.h + DQ r.e + chF r.e r.f r.g + k + w) % 4294967296
def vF (r : R8) : Int := (DR r.a + DD r.a r.b r.c) % 4294967296
def KC (k w : Int) (r : R8) : R8 := ⟨(uF k w r + vF r) % 4294967296, r.a, r.b, r.c, (r.d + uF k w r) % 4294967296, r.e, r.f, r.g⟩
def yh (kk ww : Nat → Int) (r : R8) : Nat → R8
 | 0 => r
 | t + 1 => KC (kk t) (ww t) (yh kk ww r t)
def r8 (s : Nat → Int) : R8 := ⟨s 0, s 1, s 2, s 3, s 4, s 5, s 6, s 7⟩
def QR (s : Nat → Int) (r : R8) (i : Nat) : Int :=
 [(s 0 + r.a) % 4294967296, (s 1 + r.b) % 4294967296, (s 2 + r.c) % 4294967296, (s 3 + r.d) % 4294967296, (s 4 + r.e) % 4294967296, (s 5 + r.f) % 4294967296, (s 6 + r.g) % 4294967296, (s 7 + r.h) % 4294967296].getD i 0
def jf (s b : Nat → Int) : Nat → Int := QR s (yh qu (qG b 64) (r8 s) 64)
theorem UQ : (if IntKind.u32.signed = true then -1 else IntKind.u32.max) = 4294967295 := by decide
theorem qL {w : World} {b : Nat} {T : TypeId} {cs : Array Value} (h : Blk w b T cs) (n : Nat) : Blk (w.drewN n) b T cs := by
 induction n with
 | zero => exact h
 | succ n ih => exact ih
set_option maxRecDepth 8000 in
set_option maxHeartbeats 1000000 in
theorem Vj (s b : Nat → Int) (w : World) :
    Calls Try.prog 79 #[.agg (qe 8 s), .agg (qb 64 b)] w fun e w' => e = .returned (.agg (qe 8 (jf s b))) ∧ Below w.heap.size w w' := by
  go_enter Try.func79, Try.ntmps79
  go_wp2_with (first | (refine zD rfl 81 (.tmp 0) rfl (qe 8 s) rfl ?_; refine zD rfl 118 (.tmp 1) rfl (qb 64 b) rfl ?_) | (refine qM rfl 81 rfl _ jz ?_))
  have hB : Below w.heap.size w (((w.alloc (.cells (qe 8 s) 81)).alloc (.cells (qb 64 b) 118)).alloc (.cells (qe 8 fun _ => 0) 81)) :=
    (((Below.refl _ _).alloc (Nat.le_refl _) _).alloc (by simp) _).alloc (by simp; omega) _
  have hJ : MixJ w.heap.size w s b (((w.alloc (.cells (qe 8 s) 81)).alloc (.cells (qb 64 b) 118)).alloc (.cells (qe 8 fun _ => 0) 81)).drew false false false false false false false undef undef undef undef undef :=
    { below := hB.drew, hN := by simp [World.drew],
      k0 := (((Blk.new w 81 (qe 8 s)).alloc _).alloc _).drew
      k1 := by simpa using ((Blk.new (w.alloc (.cells (qe 8 s) 81)) 118 (qb 64 b)).alloc (.cells (qe 8 fun _ => 0) 81)).drew
      k2 := by simpa using (Blk.new ((w.alloc (.cells (qe 8 s) 81)).alloc (.cells (qb 64 b) 118)) 81 (qe 8 fun _ => 0)).drew
      e18 := fun h => by simp at h, e19 := fun h => by simp at h, e20 := fun h => by simp at h, e5 := fun h => by simp at h, e6 := fun h => by simp at h, ne := fun h => by simp at h, w5 := fun h => by simp at h, w6 := fun h => by simp at h }
  clear hB
  generalize (((w.alloc (.cells (qe 8 s) 81)).alloc (.cells (qb 64 b) 118)).alloc (.cells (qe 8 fun _ => 0) 81)) = w0 at *
  simp only [Act.put, List.setIfInBounds_toArray, List.set_cons_succ, List.set_cons_zero, World.size_alloc]
  refine KR _ w.heap.size w w0 s b _ (by simp) rfl rfl hJ _ ?_
  intro g k v18 v19 v20 wc hg hk hgk hG hK hS hR hB
  simp only [fr5, Act.put, List.setIfInBounds_toArray, List.set_cons_succ, List.set_cons_zero]
  clear hJ
  have s0 : wc.cell? ⟨w.heap.size, 0, none⟩ = some (.int .u32 (s 0)) := by rw [hS.cell, qr _ _ _ (by omega)]
  have s1 : wc.cell? ⟨w.heap.size, 1, none⟩ = some (.int .u32 (s 1)) := by rw [hS.cell, qr _ _ _ (by omega)]
  have s2 : wc.cell? ⟨w.heap.size, 2, none⟩ = some (.int .u32 (s 2)) := by rw [hS.cell, qr _ _ _ (by omega)]
  have s3 : wc.cell? ⟨w.heap.size, 3, none⟩ = some (.int .u32 (s 3)) := by rw [hS.cell, qr _ _ _ (by omega)]
  have s4 : wc.cell? ⟨w.heap.size, 4, none⟩ = some (.int .u32 (s 4)) := by rw [hS.cell, qr _ _ _ (by omega)]
  have s5 : wc.cell? ⟨w.heap.size, 5, none⟩ = some (.int .u32 (s 5)) := by rw [hS.cell, qr _ _ _ (by omega)]
  have s6 : wc.cell? ⟨w.heap.size, 6, none⟩ = some (.int .u32 (s 6)) := by rw [hS.cell, qr _ _ _ (by omega)]
  have s7 : wc.cell? ⟨w.heap.size, 7, none⟩ = some (.int .u32 (s 7)) := by rw [hS.cell, qr _ _ _ (by omega)]
  go_wp2
  go_quiet (fail)
  go_wp2
  clear s0 s1 s2 s3 s4 s5 s6 s7
  have hG0 := qL hG nq
  have hK0 := qL hK nq
  have hS0 := qL hS nq
  have hR0 := qL hR nq
  have hB0 : Below w.heap.size w (wc.drewN nq) := below_drewN hB nq
  go_loopw [7, 8, 9, 10, 11, 12, 13, 14, 37] (fun xa xb xc xd xe xf xg xh i wr => ∃ t : Nat, t ≤ 64 ∧ i = .int .i64 t ∧
      xa = .int .u32 (yh qu (qG b 64) (r8 s) t).a ∧ xb = .int .u32 (yh qu (qG b 64) (r8 s) t).b ∧ xc = .int .u32 (yh qu (qG b 64) (r8 s) t).c ∧ xd = .int .u32 (yh qu (qG b 64) (r8 s) t).d ∧
      xe = .int .u32 (yh qu (qG b 64) (r8 s) t).e ∧ xf = .int .u32 (yh qu (qG b 64) (r8 s) t).f ∧ xg = .int .u32 (yh qu (qG b 64) (r8 s) t).g ∧ xh = .int .u32 (yh qu (qG b 64) (r8 s) t).h ∧
      Blk wr g 83 (qe 64 qu) ∧ Blk wr k 83 (qe 64 (qG b 64)) ∧ Blk wr w.heap.size 81 (qe 8 s) ∧ Blk wr (w.heap.size + 1 + 1) 81 (qe 8 fun _ => 0) ∧ Below w.heap.size w wr) (fun _ _ _ _ _ _ _ _ i _ => 64 - (intOf i).toNat)
  case atStart => exact ⟨0, by omega, rfl, rfl, rfl, rfl, rfl, rfl, rfl, rfl, rfl, hG0, hK0, hS0, hR0, hB0⟩
  case round =>
    clear hG0 hK0 hS0 hR0 hB0 hG hK hS hR hB
    obtain ⟨t, ht, rfl, rfl, rfl, rfl, rfl, rfl, rfl, rfl, rfl, hG, hK, hS, hR, hB⟩ := hrel
    obtain ⟨r, hr⟩ : ∃ r, Hid (r = yh qu (qG b 64) (r8 s) t) := ⟨_, rfl⟩
    rw [← hr.out]
    obtain ⟨ra, rb, rc, rd, re, rf, rg, rh⟩ := r
    dsimp only
    by_cases hlt : t < 64
    · have eg : wr.cell? ⟨g, t, none⟩ = some (.int .u32 (qu t)) := by rw [hG.cell, qr _ _ _ (by omega)]
      have ek : wr.cell? ⟨k, t, none⟩ = some (.int .u32 (qG b 64 t)) := by rw [hK.cell, qr _ _ _ (by omega)]
      obtain ⟨kt, hkt⟩ : ∃ kt, Hid (kt = qu t) := ⟨_, rfl⟩
      obtain ⟨wt, hwt⟩ : ∃ wt, Hid (wt = qG b 64 t) := ⟨_, rfl⟩
      rw [← hkt.out] at eg
      rw [← hwt.out] at ek
      go_wp2
      go_quiet ((go_at_call 92; exact Calls.quiet_of_same (vK _ _ _ (by omega) (by omega))))
      go_wp2_with (go_at_call 92; refine (vK _ _ _ (by omega) (by omega)).mono ?_; rintro e w' ⟨rfl, rfl⟩)
      go_roundw
      case rel =>
        have hn : yh qu (qG b 64) (r8 s) (t + 1) = KC kt wt ⟨ra, rb, rc, rd, re, rf, rg, rh⟩ := by rw [hkt.out, hwt.out, hr.out]; rfl
        simp only [UQ]
        exact ⟨t + 1, by omega, by go_num, by rw [hn]; rfl, by rw [hn]; rfl, by rw [hn]; rfl, by rw [hn]; rfl, by rw [hn]; rfl, by rw [hn]; rfl, by rw [hn]; rfl, by rw [hn]; rfl, qL hG _, qL hK _, qL hS _, qL hR _, below_drewN hB _⟩
      case measure => simp [intOf]; omega
    · obtain rfl : t = 64 := by omega
      clear hlt ht
      have s0 : wr.cell? ⟨w.heap.size, 0, none⟩ = some (.int .u32 (s 0)) := by rw [hS.cell, qr _ _ _ (by omega)]
      have s1 : wr.cell? ⟨w.heap.size, 1, none⟩ = some (.int .u32 (s 1)) := by rw [hS.cell, qr _ _ _ (by omega)]
      have s2 : wr.cell? ⟨w.heap.size, 2, none⟩ = some (.int .u32 (s 2)) := by rw [hS.cell, qr _ _ _ (by omega)]
      have s3 : wr.cell? ⟨w.heap.size, 3, none⟩ = some (.int .u32 (s 3)) := by rw [hS.cell, qr _ _ _ (by omega)]
      have s4 : wr.cell? ⟨w.heap.size, 4, none⟩ = some (.int .u32 (s 4)) := by rw [hS.cell, qr _ _ _ (by omega)]
      have s5 : wr.cell? ⟨w.heap.size, 5, none⟩ = some (.int .u32 (s 5)) := by rw [hS.cell, qr _ _ _ (by omega)]
      have s6 : wr.cell? ⟨w.heap.size, 6, none⟩ = some (.int .u32 (s 6)) := by rw [hS.cell, qr _ _ _ (by omega)]
      have s7 : wr.cell? ⟨w.heap.size, 7, none⟩ = some (.int .u32 (s 7)) := by rw [hS.cell, qr _ _ _ (by omega)]
      have hfin : Hid (jf s b = QR s ⟨ra, rb, rc, rd, re, rf, rg, rh⟩) := by show jf s b = _; rw [hr.out]; rfl
      clear hr
      go_wp2_with (refine zE rfl 81 _ rfl (qe 8 (QR s ⟨ra, rb, rc, rd, re, rf, rg, rh⟩)) (by kernel_rfl) ?_; refine wpList_store_row rfl 81 (.tmp 4) (.tmp 132) rfl (w.heap.size + 1 + 1) (qe 8 (QR s ⟨ra, rb, rc, rd, re, rf, rg, rh⟩)) rfl rfl 81 (qe 8 fun _ => 0) hR (qV _) (qW _ _ _) (qP _ _) ?_)
      exact bodyPost_ret (v := .agg (qe 8 (QR s ⟨ra, rb, rc, rd, re, rf, rg, rh⟩))) (results_cell_row Try.results79 _ _ (w.heap.size + 1 + 1) 81 _ (0, 0) _ rfl (hR.setRow _) Try.underlying81 rfl (qV _)) rfl ⟨by rw [hfin.out], qf hB (by omega) _⟩
def qS (s r : Nat → Int) (n : Int) : Array Value := Array.ofFn (n := 73) fun i => if i.val < 8 then .int .u32 (s i.val) else if i.val < 72 then .int .u8 (r (i.val - 8)) else .int .i64 n
theorem zy (s r : Nat → Int) (n : Int) : (qS s r n).size = 73 := by simp [qS]
theorem Km (s r : Nat → Int) (n : Int) (j : Nat) (h : j < 8) : (qS s r n)[j]? = some (.int .u32 (s j)) := by
 have h' : j < 73 := by omega
 simp [qS, h, h']
theorem xH (s r : Nat → Int) (n : Int) (j : Nat) (h : j < 64) : (qS s r n)[8 + j]? = some (.int .u8 (r j)) := by
 have h1 : ¬ 8 + j < 8 := by omega
 have h2 : 8 + j < 72 := by omega
 have h' : 8 + j < 73 := by omega
 simp [qS, h2, h']
theorem yo (s r : Nat → Int) (n : Int) : (qS s r n)[72]? = some (.int .i64 n) := by simp [qS]
theorem yZ (s r : Nat → Int) (n m : Int) : (qS s r n).setIfInBounds 72 (.int .i64 m) = qS s r m := by
 apply Array.ext_getElem?
 intro i
 rw [Array.getElem?_setIfInBounds]
 by_cases e : 72 = i
 ·subst e; simp [qS]
 ·by_cases hi : i < 73
  ·have : i < 72 := by omega
   simp [qS, e, hi, this]
  ·simp [qS, e, hi]
theorem Ui (s r : Nat → Int) (n : Int) : (qS s r n).all (·.oneCell') = true := by
 rw [Array.all_eq_true_iff_forall_mem]; intro v hv; simp [qS] at hv; obtain ⟨i, rfl⟩ := hv; split <;> (try split) <;> rfl
def xX (r : Nat → Int) (u k : Nat) (y : Nat → Int) : Nat → Int := fun j => if u ≤ j ∧ j < u + k then y (j - u) else r j
theorem Qh (s r : Nat → Int) (n : Int) (u k : Nat) (y : Nat → Int) (h : u + k ≤ 64) :
  ((qS s r n).toList.take (8 + u) ++ ((List.range k).map (fun j => Value.int .u8 (y j)) ++ (qS s r n).toList.drop (8 + u + k))).toArray = qS s (xX r u k y) n := by
 have hl : (qS s r n).toList.length = 73 := by simp [zy]
 apply Array.ext_getElem?
 intro i
 rw [List.getElem?_toArray, List.getElem?_append, List.length_take, hl, show min (8 + u) 73 = 8 + u by omega]
 by_cases h1 : i < 8 + u
 ·rw [if_pos h1, List.getElem?_take, if_pos h1, Array.getElem?_toList]
  have hi : i < 73 := by omega
  by_cases h8 : i < 8
  ·rw [Km _ _ _ _ h8, Km _ _ _ _ h8]
  ·obtain ⟨j, rfl⟩ : ∃ j, i = 8 + j := ⟨i - 8, by omega⟩
   rw [xH _ _ _ _ (by omega), xH _ _ _ _ (by omega)]
   simp only [xX]; rw [if_neg (by omega)]
 ·rw [if_neg h1, List.getElem?_append, List.length_map, List.length_range]
  by_cases h2 : i - (8 + u) < k
  ·rw [if_pos h2, List.getElem?_map, List.getElem?_range h2]
   obtain ⟨j, rfl⟩ : ∃ j, i = 8 + j := ⟨i - 8, by omega⟩
   rw [xH _ _ _ _ (by omega)]
   simp only [xX, Option.map_some]; rw [if_pos (by omega), show 8 + j - (8 + u) = j - u by omega]
  ·rw [if_neg h2, List.getElem?_drop, Array.getElem?_toList, show 8 + u + k + (i - (8 + u) - k) = i by omega]
   by_cases h72 : i < 72
   ·obtain ⟨j, rfl⟩ : ∃ j, i = 8 + j := ⟨i - 8, by omega⟩
    rw [xH _ _ _ _ (by omega), xH _ _ _ _ (by omega)]
    simp only [xX]; rw [if_neg (by omega)]
   ·by_cases h73 : i = 72
    ·subst h73; rw [yo, yo]
    ·rw [Array.getElem?_eq_none (by rw [zy]; omega), Array.getElem?_eq_none (by rw [zy]; omega)]
theorem Ql : (Try.prog.info? 120).map (·.size) = some 73 := by kernel_rfl
theorem yL (s r : Nat → Int) (n : Int) : (Try.prog.info? 120).map (·.size) = some (qS s r n).size := by rw [zy]; exact Ql
set_option maxRecDepth 10000 in
theorem Vi (w : World) :
  Calls Try.prog 59 #[] w fun e w' => e = .returned (ptr (w.heap.size + 1)) ∧ w' = (w.alloc (.cells (qe 8 zf) 81)).alloc (.cells (qS zf (fun _ => 0) 0) 120) := by
 go_enter Try.func59, Try.ntmps59
 go_wp2_with fail
 refine (YX _).mono ?_
 rintro e w' ⟨rfl, rfl⟩
 go_wp2_with (refine zE rfl 120 _ rfl (qS zf (fun _ => 0) 0) (by kernel_rfl) ?_; refine zD rfl 120 (.tmp 2) rfl (qS zf (fun _ => 0) 0) rfl ?_)
 go_ret
 exact ⟨by simp, rfl⟩
def wo0 (q : String) : Oper := { dst := some 36, op := Op.move (Operand.tmp 0), type := 100, pos := q, after := #[], guard := none }
def wo1 (q : String) : Oper := { dst := some 37, op := Op.move (Operand.tmp 0), type := 100, pos := q, after := #[], guard := none }
def wo2 (q : String) : Oper := { dst := some 38, op := Op.nilCheck (Operand.tmp 37), type := 0, pos := q, after := #[{ on := 1, ground := Ground.data }], guard := none }
def wo3 (q : String) : Oper := { dst := some 39, op := Op.fieldAddr 120 (Operand.tmp 38) 0, type := 0, pos := q, after := #[{ on := 2, ground := Ground.data }], guard := none }
def wo4 (q : String) : Oper := { dst := some 40, op := Op.load 81 (Operand.tmp 39), type := 81, pos := q, after := #[{ on := 3, ground := Ground.data }], guard := none }
def wo5 (q : String) : Oper := { dst := some 41, op := Op.move (Operand.tmp 0), type := 100, pos := q, after := #[], guard := none }
def wo6 (q : String) : Oper := { dst := some 42, op := Op.nilCheck (Operand.tmp 41), type := 0, pos := q, after := #[{ on := 5, ground := Ground.data }], guard := none }
def wo7 (q : String) : Oper := { dst := some 43, op := Op.fieldAddr 120 (Operand.tmp 42) 1, type := 0, pos := q, after := #[{ on := 6, ground := Ground.data }], guard := none }
def wo8 (q : String) : Oper := { dst := some 44, op := Op.load 118 (Operand.tmp 43), type := 118, pos := q, after := #[{ on := 7, ground := Ground.data }], guard := none }
def wo9 (q : String) : Oper := { dst := some 45, op := Op.call { callee := Callee.value (Operand.func 79), args := #[Operand.tmp 40, Operand.tmp 44], argTypes := #[81, 118] }, type := 81, pos := q, after := #[{ on := 4, ground := Ground.data }, { on := 8, ground := Ground.data }], guard := none }
def UN (q : String) : Oper := { dst := some 46, op := Op.nilCheck (Operand.tmp 36), type := 0, pos := q, after := #[{ on := 0, ground := Ground.data }, { on := 0, ground := Ground.phase }, { on := 1, ground := Ground.phase }, { on := 2, ground := Ground.phase }, { on := 3, ground := Ground.phase }, { on := 4, ground := Ground.phase }, { on := 5, ground := Ground.phase }, { on := 6, ground := Ground.phase }, { on := 7, ground := Ground.phase }, { on := 8, ground := Ground.phase }, { on := 9, ground := Ground.phase }], guard := none }
def UM (q : String) : Oper := { dst := some 47, op := Op.fieldAddr 120 (Operand.tmp 46) 0, type := 0, pos := q, after := #[{ on := 10, ground := Ground.data }, { on := 0, ground := Ground.phase }, { on := 1, ground := Ground.phase }, { on := 2, ground := Ground.phase }, { on := 3, ground := Ground.phase }, { on := 4, ground := Ground.phase }, { on := 5, ground := Ground.phase }, { on := 6, ground := Ground.phase }, { on := 7, ground := Ground.phase }, { on := 8, ground := Ground.phase }, { on := 9, ground := Ground.phase }], guard := none }
def XW (q : String) : Oper := { dst := none, op := Op.store 81 (Operand.tmp 47) (Operand.tmp 45), type := 0, pos := q, after := #[{ on := 11, ground := Ground.data }, { on := 9, ground := Ground.data }, { on := 9, ground := Ground.chain }, { on := 0, ground := Ground.phase }, { on := 1, ground := Ground.phase }, { on := 2, ground := Ground.phase }, { on := 3, ground := Ground.phase }, { on := 4, ground := Ground.phase }, { on := 5, ground := Ground.phase }, { on := 6, ground := Ground.phase }, { on := 7, ground := Ground.phase }, { on := 8, ground := Ground.phase }, { on := 9, ground := Ground.phase }], guard := none }
def woA (q : String) : Array Oper := #[wo0 q, wo1 q, wo2 q, wo3 q, wo4 q, wo5 q, wo6 q, wo7 q, wo8 q, wo9 q, UN q, UM q, XW q]
theorem QB (w : World) (vs : Array Value) : (callFunc 79 vs).run Try.prog w = .ok (.enter 79 vs) w := by kernel_rfl
theorem yc (g : Nat) (w : World) : (Instr.fieldAt 120 (ptr g) 0).run Try.prog w = .ok (ptr g) w := by kernel_rfl
theorem kT (g : Nat) (w : World) : (Instr.fieldAt 120 (ptr g) 1).run Try.prog w = .ok (.pointer (some ⟨g, 8, none⟩)) w := by kernel_rfl
def woV (g : Nat) (s p : Nat → Int) : Nat → Value
 | 4 => .agg (qe 8 s)
 | 7 => .pointer (some ⟨g, 8, none⟩)
 | 8 => .agg (qb 64 p)
 | 9 => .agg (qe 8 (jf s p))
 | 12 => undef
 | _ => ptr g
structure WoW (g : Nat) (w0 : World) (s p : Nat → Int) (m : Int) (l : Array Bool) (w : World) : Prop where
 gr : w0.grownBy w (some g)
 a : l.getD 12 false = false → Blk w g 120 (qS s p m)
 b : l.getD 12 false = true → Blk w g 120 (qS (jf s p) p m)
 c : l.getD 12 false = true → l.getD 4 false = true ∧ l.getD 8 false = true
theorem Xf (s p c : Nat → Int) (m : Int) : ((qS s p m).toList.take 0 ++ (qe 8 c).toList ++ (qS s p m).toList.drop (0 + (qe 8 c).size)).toArray = qS c p m := by
 have hl : (qS s p m).toList.length = 73 := by simp [zy]
 apply Array.ext_getElem?
 intro i
 rw [qH, List.take_zero, List.nil_append, List.getElem?_toArray, List.getElem?_append, Array.length_toList, qH]
 by_cases h8 : i < 8
 ·rw [if_pos h8, Array.getElem?_toList, qr _ _ _ h8, Km _ _ _ _ h8]
 ·rw [if_neg h8, List.getElem?_drop, Array.getElem?_toList, show 0 + 8 + (i - 8) = i by omega]
  by_cases h72 : i < 72
  ·obtain ⟨j, rfl⟩ : ∃ j, i = 8 + j := ⟨i - 8, by omega⟩
   rw [xH _ _ _ _ (by omega), xH _ _ _ _ (by omega)]
  ·by_cases h73 : i = 72
   ·subst h73; rw [yo, yo]
   ·rw [Array.getElem?_eq_none (by rw [zy]; omega), Array.getElem?_eq_none (by rw [zy]; omega)]
theorem Xe {w : World} {g : Nat} {s p : Nat → Int} {m : Int} (h : Blk w g 120 (qS s p m)) : w.rangeAt g 8 (qb 64 p).toList := by
 intro j v hv
 have hj : j < 64 := by have := (List.getElem?_eq_some_iff.1 hv).1; simpa [qB] using this
 rw [h.cell, xH _ _ _ _ hj, ← hv, Array.getElem?_toList, qN _ _ _ hj]
theorem kq {w : World} {g : Nat} {s p : Nat → Int} {m : Int} (h : Blk w g 120 (qS s p m)) : w.rangeAt g 0 (qe 8 s).toList := by
 intro j v hv
 have hj : j < 8 := by have := (List.getElem?_eq_some_iff.1 hv).1; simpa [qH] using this
 rw [Nat.zero_add, h.cell, Km _ _ _ _ hj, ← hv, Array.getElem?_toList, qr _ _ _ hj]
theorem zg {a b c : World} {o : Option Nat} (h : a.grownBy b o) (k : b.grownBy c o) : a.grownBy c o :=
 ⟨k.os.trans h.os, k.tape.trans h.tape, k.output.trans h.output, Nat.le_trans h.size k.size, fun i hi hn => (k.block i (Nat.lt_of_lt_of_le hi h.size) hn).trans (h.block i hi hn)⟩
theorem WoW.next {g : Nat} {w0 w w' : World} {s p : Nat → Int} {m : Int} {l : Array Bool} (h : WoW g w0 s p m l w) (hb : Below w.heap.size w w') (i : Nat) (hi : i ≠ 12) : WoW g w0 s p m (l.setIfInBounds i true) w' where
 gr := zg h.gr (yb hb _)
 a e := by rw [getD_set_ne false hi] at e; exact (h.a e).below hb (h.a e).lt
 b e := by rw [getD_set_ne false hi] at e; exact (h.b e).below hb (h.b e).lt
 c e := by rw [getD_set_ne false hi] at e; exact ⟨getD_set_true (h.c e).1, getD_set_true (h.c e).2⟩
theorem yH {l : Array Bool} {i : Nat} (h : l.getD i true = false) : l.getD i false = false := by
 obtain ⟨h1, h2⟩ := yG h
 simp [Array.getD, h1, h2]
set_option maxRecDepth 8000 in
set_option maxHeartbeats 1000000 in
theorem UL (q : String) (g : Nat) (w0 : World) (s p : Nat → Int) (m : Int) (a0 : Act) (h0 : a0.eval (.tmp 0) = ptr g) (Q : Exit → Act → World → Prop)
  (l : Array Bool) (a : Act) (w : World) (i : Nat) (o : Oper)
  (hold : ∀ t : Nat, (∀ (j : Nat) (o' : Oper), (woA q)[j]? = some o' → o'.dst ≠ some t) → a.eval (.tmp t) = a0.eval (.tmp t))
  (hval : ∀ (j : Nat) (o' : Oper) (d : Nat), (woA q)[j]? = some o' → o'.dst = some d → l.getD j false = true → a.eval (.tmp d) = woV g s p j)
  (hW : WoW g w0 s p m l w) (_ : l.size = (woA q).size) (hi : l.getD i true = false) (ho : (woA q)[i]? = some o) (he : ∀ e ∈ o.after, Region.binds .any e = true → l.getD e.on false = true) :
  o.guard = none ∧ o.wp Try.prog a w (fun a' w' => a' = a.put o.dst (woV g s p i) ∧ WoW g w0 s p m (l.setIfInBounds i true) w') Q := by
 have a0e : a.eval (.tmp 0) = ptr g := by
  rw [hold 0 ?_, h0]
  intro j o' hj
  have : ∀ j : Fin 13, ((woA q)[j.val]?.bind (·.dst)) ≠ some 0 := by
   have h : ∀ j : Fin 13, ((woA (String.ofList []))[j.val]?.bind (·.dst)) ≠ some 0 := by decide
   intro j
   have e : ((woA q)[j.val]?.bind (·.dst)) = ((woA (String.ofList []))[j.val]?.bind (·.dst)) := by
    match j with
    | ⟨0, _⟩ => rfl
    | ⟨1, _⟩ => rfl
    | ⟨2, _⟩ => rfl
    | ⟨3, _⟩ => rfl
    | ⟨4, _⟩ => rfl
    | ⟨5, _⟩ => rfl
    | ⟨6, _⟩ => rfl
    | ⟨7, _⟩ => rfl
    | ⟨8, _⟩ => rfl
    | ⟨9, _⟩ => rfl
    | ⟨10, _⟩ => rfl
    | ⟨11, _⟩ => rfl
    | ⟨12, _⟩ => rfl
   rw [e]; exact h j
  have hlt : j < 13 := (Array.getElem?_eq_some_iff.1 hj).1
  have := this ⟨j, hlt⟩
  rw [hj] at this; exact this
 have v := fun (j d : Nat) (o' : Oper) (h1 : (woA q)[j]? = some o') (h2 : o'.dst = some d) (h3 : l.getD j false = true) => hval j o' d h1 h2 h3
 match i, hi, ho with
 | 0, hi, ho =>
  have e : wo0 q = o := Option.some.inj ho
  exact ⟨by rw [← e]; rfl, xN (.tmp 0) (by rw [← e]; rfl) (ptr g) a0e ⟨rfl, hW.next (Below.refl _ _) 0 (by decide)⟩⟩
 | 1, hi, ho =>
  have e : wo1 q = o := Option.some.inj ho
  exact ⟨by rw [← e]; rfl, xN (.tmp 0) (by rw [← e]; rfl) (ptr g) a0e ⟨rfl, hW.next (Below.refl _ _) 1 (by decide)⟩⟩
 | 2, hi, ho =>
  have e : wo2 q = o := Option.some.inj ho
  have qq := v 1 37 (wo1 q) rfl rfl (he ⟨1, .data⟩ (by rw [← e]; simp [wo2]) rfl)
  exact ⟨by rw [← e]; rfl, xu (.tmp 37) (by rw [← e]; rfl) ⟨g, 0, none⟩ qq ⟨rfl, hW.next (Below.refl _ _) 2 (by decide)⟩⟩
 | 3, hi, ho =>
  have e : wo3 q = o := Option.some.inj ho
  have qq := v 2 38 (wo2 q) rfl rfl (he ⟨2, .data⟩ (by rw [← e]; simp [wo3]) rfl)
  exact ⟨by rw [← e]; rfl, jY 120 (.tmp 38) 0 (by rw [← e]; rfl) (ptr g) (ptr g) qq (yc g) ⟨rfl, hW.next (Below.refl _ _) 3 (by decide)⟩⟩
 | 4, hi, ho =>
  have e : wo4 q = o := Option.some.inj ho
  have qq := v 3 39 (wo3 q) rfl rfl (he ⟨3, .data⟩ (by rw [← e]; simp [wo4]) rfl)
  have hb : Blk w g 120 (qS s p m) := hW.a (by
   cases h : l.getD 12 false with
   | false => rfl
   | true => have := (hW.c h).1; rw [yH hi] at this; cases this)
  refine ⟨by rw [← e]; rfl, wp_load_mid 81 (.tmp 39) (by rw [← e]; rfl) g 0 qq (qe 8 s).toList (.array 8 80) (kq hb) Try.underlying81 rfl (by rw [Array.length_toList]; exact qV s) ?_⟩
  rw [Array.toArray_toList]
  exact ⟨rfl, hW.next (Below.refl _ _) 4 (by decide)⟩
 | 5, hi, ho =>
  have e : wo5 q = o := Option.some.inj ho
  exact ⟨by rw [← e]; rfl, xN (.tmp 0) (by rw [← e]; rfl) (ptr g) a0e ⟨rfl, hW.next (Below.refl _ _) 5 (by decide)⟩⟩
 | 6, hi, ho =>
  have e : wo6 q = o := Option.some.inj ho
  have qq := v 5 41 (wo5 q) rfl rfl (he ⟨5, .data⟩ (by rw [← e]; simp [wo6]) rfl)
  exact ⟨by rw [← e]; rfl, xu (.tmp 41) (by rw [← e]; rfl) ⟨g, 0, none⟩ qq ⟨rfl, hW.next (Below.refl _ _) 6 (by decide)⟩⟩
 | 7, hi, ho =>
  have e : wo7 q = o := Option.some.inj ho
  have qq := v 6 42 (wo6 q) rfl rfl (he ⟨6, .data⟩ (by rw [← e]; simp [wo7]) rfl)
  exact ⟨by rw [← e]; rfl, jY 120 (.tmp 42) 1 (by rw [← e]; rfl) (ptr g) (.pointer (some ⟨g, 8, none⟩)) qq (kT g) ⟨rfl, hW.next (Below.refl _ _) 7 (by decide)⟩⟩
 | 8, hi, ho =>
  have e : wo8 q = o := Option.some.inj ho
  have qq := v 7 43 (wo7 q) rfl rfl (he ⟨7, .data⟩ (by rw [← e]; simp [wo8]) rfl)
  have hb : Blk w g 120 (qS s p m) := hW.a (by
   cases h : l.getD 12 false with
   | false => rfl
   | true => have := (hW.c h).2; rw [yH hi] at this; cases this)
  refine ⟨by rw [← e]; rfl, wp_load_mid 118 (.tmp 43) (by rw [← e]; rfl) g 8 qq (qb 64 p).toList (.array 64 5) (Xe hb) Try.underlying118 rfl (by rw [Array.length_toList]; exact yM p) ?_⟩
  rw [Array.toArray_toList]
  exact ⟨rfl, hW.next (Below.refl _ _) 8 (by decide)⟩
 | 9, hi, ho =>
  have e : wo9 q = o := Option.some.inj ho
  have q1 : a.eval (.tmp 40) = .agg (qe 8 s) := v 4 40 (wo4 q) rfl rfl (he ⟨4, .data⟩ (by rw [← e]; simp [wo9]) rfl)
  have q2 : a.eval (.tmp 44) = .agg (qb 64 p) := v 8 44 (wo8 q) rfl rfl (he ⟨8, .data⟩ (by rw [← e]; simp [wo9]) rfl)
  exact ⟨by rw [← e]; rfl, qz 79 #[.tmp 40, .tmp 44] #[81, 118] (by rw [← e]; rfl) QB #[.agg (qe 8 s), .agg (qb 64 p)] (by simp only [List.map_toArray, List.map_cons, List.map_nil, q1, q2])
   (fun v w' => v = .agg (qe 8 (jf s p)) ∧ Below w.heap.size w w') ((Vj s p w).mono (by rintro e w' ⟨rfl, hb⟩; exact ⟨_, rfl, rfl, hb⟩))
   (by rintro v w' ⟨rfl, hb⟩; exact ⟨rfl, hW.next hb 9 (by decide)⟩)⟩
 | 10, hi, ho =>
  have e : UN q = o := Option.some.inj ho
  have qq := v 0 36 (wo0 q) rfl rfl (he ⟨0, .data⟩ (by rw [← e]; simp [UN]) rfl)
  exact ⟨by rw [← e]; rfl, xu (.tmp 36) (by rw [← e]; rfl) ⟨g, 0, none⟩ qq ⟨rfl, hW.next (Below.refl _ _) 10 (by decide)⟩⟩
 | 11, hi, ho =>
  have e : UM q = o := Option.some.inj ho
  have qq := v 10 46 (UN q) rfl rfl (he ⟨10, .data⟩ (by rw [← e]; simp [UM]) rfl)
  exact ⟨by rw [← e]; rfl, jY 120 (.tmp 46) 0 (by rw [← e]; rfl) (ptr g) (ptr g) qq (yc g) ⟨rfl, hW.next (Below.refl _ _) 11 (by decide)⟩⟩
 | 12, hi, ho =>
  have e : XW q = o := Option.some.inj ho
  have q1 := v 11 47 (UM q) rfl rfl (he ⟨11, .data⟩ (by rw [← e]; simp [XW]) rfl)
  have q2 : a.eval (.tmp 45) = .agg (qe 8 (jf s p)) := v 9 45 (wo9 q) rfl rfl (he ⟨9, .data⟩ (by rw [← e]; simp [XW]) rfl)
  have l4 := he ⟨4, .phase⟩ (by rw [← e]; simp [XW]) rfl
  have l8 := he ⟨8, .phase⟩ (by rw [← e]; simp [XW]) rfl
  have hb := hW.a (yH hi)
  refine ⟨by rw [← e]; rfl, kK 81 (.tmp 47) (.tmp 45) (by rw [← e]; rfl) g 0 (qe 8 (jf s p)) q1 q2 120 (qS s p m) hb (qV _) (by rw [qH, zy]; omega) (qP _ _) ?_⟩
  rw [Xf]
  have h12 : (l.setIfInBounds 12 true).getD 12 false = true := by
   obtain ⟨h1, _⟩ := yG hi
   simp [Array.getD, h1]
  exact ⟨rfl, { gr := zg hW.gr (jc _ _ _), a := fun e => (by rw [h12] at e; cases e), b := fun _ => Blk.setRow hb _, c := fun _ => ⟨getD_set_true l4, getD_set_true l8⟩ }⟩
 | n + 13, hi, ho => simp [woA] at ho
theorem Jp (q : String) (g : Nat) (s p : Nat → Int) (a0 : Act) : zx (woA q) (woV g s p) a0 13 =
  ((((((((((((a0.put (some 36) (ptr g)).put (some 37) (ptr g)).put (some 38) (ptr g)).put (some 39) (ptr g)).put (some 40) (.agg (qe 8 s))).put (some 41) (ptr g)).put (some 42) (ptr g)).put (some 43) (.pointer (some ⟨g, 8, none⟩))).put (some 44) (.agg (qb 64 p))).put (some 45) (.agg (qe 8 (jf s p)))).put (some 46) (ptr g)).put (some 47) (ptr g)) := by kernel_rfl
theorem Jc (q : String) (g : Nat) (w0 : World) (s p : Nat → Int) (m : Int) (a0 : Act) (hsz : a0.tmps.size = 48) (h0 : a0.eval (.tmp 0) = ptr g) (hb : Blk w0 g 120 (qS s p m)) (Q : Exit → Act → World → Prop)
  (hQ : ∀ wc, w0.grownBy wc (some g) → Blk wc g 120 (qS (jf s p) p m) → Q .normal (zx (woA q) (woV g s p) a0 13) wc) :
  (Code.region 6 (woA q) true).wp Try.prog Q a0 w0 := by
 refine xr (by kernel_rfl) (woV g s p) (WoW g w0 s p m) (by rw [hsz]; kernel_rfl) (by kernel_rfl) (UL q g w0 s p m a0 h0 Q) ?_ ?_
 ·intro l wc hW hall
  exact hQ wc hW.gr (hW.b (hall 12 (by simp [woA])))
 ·exact ⟨⟨rfl, rfl, rfl, Nat.le_refl _, fun _ _ _ => rfl⟩, fun _ => hb.drew, fun h => by simp [Array.getD] at h, fun h => by simp [Array.getD] at h⟩
structure Dg where
 s : Nat → Int
 r : Nat → Int
 n : Nat
def Kr (d : Dg) (x : Int) : Dg := ⟨if d.n % 64 = 63 then jf d.s (upd d.r (d.n % 64) x) else d.s, upd d.r (d.n % 64) x, d.n + 1⟩
def qI (d : Dg) (x : Nat → Int) : Nat → Dg
 | 0 => d
 | i + 1 => Kr (qI d x i) (x i)
theorem JG (d : Dg) (x : Nat → Int) (i : Nat) : (qI d x i).n = d.n + i := by
 induction i with
 | zero => rfl
 | succ i ih => simp only [qI, Kr, ih]; omega
theorem Qk (d : Dg) (x : Nat → Int) (i k : Nat) : qI d x (i + k) = qI (qI d x i) (fun j => x (i + j)) k := by
 induction k with
 | zero => rfl
 | succ k ih => rw [← Nat.add_assoc]; simp only [qI, ih]
theorem Yr (r : Nat → Int) (u k : Nat) (y : Nat → Int) : upd (xX r u k y) (u + k) (y k) = xX r u (k + 1) y := by
 funext j
 simp only [upd, xX]
 by_cases h1 : j = u + k
 ·subst h1; simp
 ·by_cases h2 : u ≤ j ∧ j < u + k
  ·rw [if_neg h1, if_pos h2, if_pos (by omega)]
  ·rw [if_neg h1, if_neg h2, if_neg (by omega)]
theorem Yq (r : Nat → Int) (u : Nat) (y : Nat → Int) : xX r u 0 y = r := by
 funext j; simp only [xX]; rw [if_neg (by omega)]
theorem yK (d : Dg) (y : Nat → Int) (k : Nat) (h : d.n % 64 + k ≤ 64) :
  qI d y k = ⟨if d.n % 64 + k = 64 then jf d.s (xX d.r (d.n % 64) k y) else d.s, xX d.r (d.n % 64) k y, d.n + k⟩ := by
 induction k with
 | zero => simp only [qI, Yq]; rw [if_neg (by omega)]; rfl
 | succ k ih =>
  simp only [qI]
  rw [ih (by omega), if_neg (by omega)]
  have e : (d.n + k) % 64 = d.n % 64 + k := by omega
  simp only [Kr, e, Yr]
  by_cases h63 : d.n % 64 + k = 63
  ·rw [if_pos h63, if_pos (by omega)]; rfl
  ·rw [if_neg h63, if_neg (by omega)]; rfl
theorem kH : Try.prog.elem 118 = 5 := by kernel_rfl
theorem yr : Try.prog.arrayLen 118 = 64 := by kernel_rfl
theorem UW (w : World) (g u : Nat) (h : u < 64) : (Instr.sliceAt 118 (.pointer (some ⟨g, 8, none⟩)) (some (.int .i64 (u : Int))) none none).run Try.prog w = .ok (.slice (some ⟨g, 8 + u, none⟩) (64 - u) (64 - u)) w := by
 rw [run_sliceAt_array_l (P := Try.prog) (w := w) (t := 118) (a := ⟨g, 8, none⟩) (by rw [kH, yr]; exact Try.underlying118) .i64 (u : Int) (by omega) (by rw [yr]; omega), kH, yr, xI]
 have : ¬ 64 = u := by omega
 simp [slicedAt, Result.andThen, Addr.add_mid, this]
theorem yF {w w' : World} {g h j : Nat} {v : Value} (hg : w.grownBy w' (some g)) (hne : h ≠ g) (hc : w.cell? ⟨h, j, none⟩ = some v) : w'.cell? ⟨h, j, none⟩ = some v := by
 have hlt : h < w.heap.size := by
  apply Nat.lt_of_not_le; intro hle
  simp [World.cell?, Array.getElem?_eq_none hle] at hc
 rw [World.cell?_of_block (w := w) (hg.block h hlt (by simpa using hne))]; exact hc
set_option maxRecDepth 8000 in
set_option maxHeartbeats 1000000 in
theorem Jb (g : Nat) (d : Dg) (x : Nat → Int) (len cap h off : Nat) (w : World) (hg : Blk w g 120 (qS d.s d.r d.n)) (hgh : h ≠ g)
  (hx : ∀ i, i < len → w.cell? ⟨h, off + i, none⟩ = some (.int .u8 (x i))) (hlen : (d.n : Int) + len ≤ 1152921504606846976) (hcap : len ≤ cap) :
  Calls Try.prog 60 #[ptr g, .slice (some ⟨h, off, none⟩) len cap] w fun e w' => e = .returned (.tuple #[]) ∧ Blk w' g 120 (qS (qI d x len).s (qI d x len).r (qI d x len).n) ∧ w.grownBy w' (some g) := by
 have HX : Keep (∀ i, i < len → w.cell? ⟨h, off + i, none⟩ = some (.int .u8 (x i))) := ⟨hx⟩
 clear hx
 go_enter Try.func60, Try.ntmps60
 go_wp2
 go_loopw [1] (fun b wr => ∃ i o c : Nat, i ≤ len ∧ b = .slice (some ⟨h, o, none⟩) (len - i) c ∧ len - i ≤ c ∧ Hid (i < len → o = off + i) ∧ Blk wr g 120 (qS (qI d x i).s (qI d x i).r (qI d x i).n) ∧ w.grownBy wr (some g)) (fun b _ => match b with | .slice _ l _ => l | _ => 0)
 case atStart => exact ⟨0, off, cap, by omega, rfl, by omega, fun _ => rfl, hg, Ki _ _⟩
 case round =>
  obtain ⟨i, o, c, hi, rfl, hc, HO, hD, hgr⟩ := hrel
  clear hg
  have hni := JG d x i
  obtain ⟨D, hDD⟩ : ∃ D, Keep (D = qI d x i) := ⟨_, ⟨rfl⟩⟩
  rw [← hDD.out] at hD hni
  obtain ⟨s, r, n⟩ := D
  dsimp only at hD hni
  by_cases hlt : i < len
  ·have c72 : wr.cell? ⟨g, 72, none⟩ = some (.int .i64 n) := by rw [hD.cell, yo]
   have hn0 : (n : Int) + (len - i : Nat) ≤ 1152921504606846976 := by omega
   clear hni
   obtain rfl := HO.out hlt
   obtain ⟨u, hu0⟩ : ∃ u, u = n % 64 := ⟨_, rfl⟩
   have hu : (n : Int) % 64 = (u : Int) := by omega
   have hu64 : u < 64 := by omega
   have hu64' : (u : Int) < 64 := by omega
   have HU : Keep (u = n % 64) := ⟨hu0⟩
   clear hu0
   have hsl := UW wr g u hu64
   obtain ⟨k, hk0⟩ : ∃ k, k = Nat.min (len - i) (64 - u) := ⟨_, rfl⟩
   have hk1 : k ≤ len - i := by rw [hk0]; exact Nat.min_le_left _ _
   have hk2' : k ≤ 64 - u := by rw [hk0]; exact Nat.min_le_right _ _
   have hk2 : u + k ≤ 64 := by omega
   clear hk2'
   have hk3 : 0 < k := by rw [hk0]; exact Nat.lt_min.2 ⟨by omega, by omega⟩
   have HK : Keep (k = Nat.min (len - i) (64 - u)) := ⟨hk0⟩
   clear hk0
   have HS : Keep (∀ j v, ((List.range k).map fun j => Value.int .u8 (x (i + j)))[j]? = some v → wr.cell? ((⟨h, off + i, none⟩ : Addr).add j) = some v) := by
    refine ⟨?_⟩
    intro j v hv
    have hj : j < k := by have := (List.getElem?_eq_some_iff.1 hv).1; simpa using this
    rw [List.getElem?_map, List.getElem?_range hj] at hv
    rw [Addr.add_mid, Nat.add_assoc]
    refine yF hgr hgh ?_
    rw [HX.out _ (by omega)]
    simpa using hv
   have HL : Keep (((List.range k).map fun j => Value.int .u8 (x (i + j))).length = Nat.min (len - i) (64 - u)) := by
    refine ⟨?_⟩; rw [← HK.out]; simp
   have HF : Keep (8 + u + ((List.range k).map fun j => Value.int .u8 (x (i + j))).length ≤ (qS s r n).size) := by
    refine ⟨?_⟩; rw [zy]; simp; omega
   have H1 : Keep (∀ v ∈ ((List.range k).map fun j => Value.int .u8 (x (i + j))), v.oneCell' = true) := by
    refine ⟨?_⟩; intro v hv; simp at hv; obtain ⟨_, _, rfl⟩ := hv; rfl
   obtain ⟨w1, hw1⟩ : ∃ w1, Keep (w1 = wr.setRow g ((qS s r n).toList.take (8 + u) ++ (((List.range k).map fun j => Value.int .u8 (x (i + j))) ++ (qS s r n).toList.drop (8 + u + ((List.range k).map fun j => Value.int .u8 (x (i + j))).length))).toArray) := ⟨_, ⟨rfl⟩⟩
   have hD1 : Blk w1 g 120 (qS s (xX r u k (fun j => x (i + j))) n) := by
    have := hD.setRow (qS s (xX r u k (fun j => x (i + j))) n)
    rw [← Qh s r n u k (fun j => x (i + j)) hk2] at this ⊢
    rw [hw1.out, List.length_map, List.length_range]; exact this
   have hgr1 : w.grownBy w1 (some g) := by rw [hw1.out]; exact zg hgr (jc _ _ _)
   have c72' : w1.cell? ⟨g, 72, none⟩ = some (.int .i64 n) := by rw [hD1.cell, yo]
   have f72' : w1.frozen? ⟨g, 72, none⟩ = false := hD1.frozen 72
   go_wp2_with (refine wpList_copy_own rfl (.tmp 18) (.tmp 19) 42 42 rfl 5 Try.underlying42 vf g (8 + u) (64 - u) (64 - u) ⟨h, off + i, none⟩ (len - i) c rfl rfl (qS s r n) 120 hD ((List.range k).map fun j => Value.int .u8 (x (i + j))) HL.out HS.out HF.out H1.out ?_; rw [← hw1.out, List.length_map, List.length_range]; refine Hid.out ?_)
   clear c72 hsl hD
   refine zp ?_
   have hch : Keep (qI d x (i + k) = ⟨if u + k = 64 then jf s (xX r u k fun j => x (i + j)) else s, xX r u k fun j => x (i + j), n + k⟩) := by
    refine ⟨?_⟩
    rw [Qk, ← hDD.out]
    have := yK ⟨s, r, n⟩ (fun j => x (i + j)) k (by rw [← HU.out]; exact hk2)
    rw [← HU.out] at this
    exact this
   have hcc : Keep ((if c = k then some (⟨h, off + i, none⟩ : Addr) else some ⟨h, off + i + k, none⟩) = some ⟨h, if c = k then off + i else off + i + k, none⟩) := ⟨by split <;> rfl⟩
   have hoo : Keep (i + k < len → (if c = k then off + i else off + i + k) = off + (i + k)) := ⟨fun hl => by rw [if_neg (by omega)]; omega⟩
   clear HX HS HL HF H1 hw1 HO
   by_cases huk : u + k = 64
   ·have hukb : ((u : Int) + (k : Int) == 64) = true := by simp; omega
    by_cases hck : c = k
    ·have hck' := hck.symm
     subst hck'
     go_wp2
     have hD2 := hD1.set 72 (.int .i64 ((n : Int) + k))
     rw [yZ] at hD2
     have hgr2 := zg hgr1 (zX w1 g 72 (.int .i64 ((n : Int) + k)))
     generalize w1.setCell ⟨g, 72, none⟩ (.int .i64 ((n : Int) + k)) = w2 at *
     clear hD1 hgr1 c72' f72' hgr
     refine Jc _ g w2 s _ ((n : Int) + k) _ (by simp) rfl hD2 _ ?_
     intro wc hgr3 hD3
     rw [Jp]
     simp only [Act.put, List.setIfInBounds_toArray, List.set_cons_succ, List.set_cons_zero]
     go_wp2
     have hx3 : Blk wc g 120 (qS (qI d x (i + k)).s (qI d x (i + k)).r (qI d x (i + k)).n) := by
      rw [hch.out, if_pos huk]
      simpa using hD3
     refine ⟨⟨i + k, off + i, 0, by omega, by rw [show len - (i + k) = 0 by omega], by omega, fun hl => absurd hl (by omega), hx3, zg hgr2 hgr3⟩, by dsimp only; omega⟩
    ·go_wp2
     have hD2 := hD1.set 72 (.int .i64 ((n : Int) + k))
     rw [yZ] at hD2
     have hgr2 := zg hgr1 (zX w1 g 72 (.int .i64 ((n : Int) + k)))
     generalize w1.setCell ⟨g, 72, none⟩ (.int .i64 ((n : Int) + k)) = w2 at *
     clear hD1 hgr1 c72' f72' hgr
     refine Jc _ g w2 s _ ((n : Int) + k) _ (by simp) rfl hD2 _ ?_
     intro wc hgr3 hD3
     rw [Jp]
     simp only [Act.put, List.setIfInBounds_toArray, List.set_cons_succ, List.set_cons_zero]
     go_wp2
     have hx3 : Blk wc g 120 (qS (qI d x (i + k)).s (qI d x (i + k)).r (qI d x (i + k)).n) := by
      rw [hch.out, if_pos huk]
      simpa using hD3
     refine ⟨⟨i + k, off + i + k, c - k, by omega, by rw [Nat.sub_sub], by omega, fun _ => Nat.add_assoc _ _ _, hx3, zg hgr2 hgr3⟩, by dsimp only; omega⟩
   ·have hukb : ((u : Int) + (k : Int) == 64) = false := by simp; omega
    go_wp2
    refine ⟨⟨i + k, _, c - k, by omega, by rw [hcc.out, Nat.sub_sub], by omega, hoo.out, ?_, zg hgr1 (zX _ _ _ _)⟩, by dsimp only; omega⟩
    have h2 := hD1.set 72 (.int .i64 ((n : Int) + k))
    rw [yZ] at h2
    rw [hch.out, if_neg huk]
    simpa using h2
  ·obtain rfl : i = len := by omega
   rw [Nat.sub_self]
   have hfin : Blk wr g 120 (qS (qI d x i).s (qI d x i).r (qI d x i).n) := by rw [← hDD.out]; exact hD
   go_wp2
   go_end0
   exact ⟨rfl, hfin, hgr⟩
end Go.Proofs.Ytdpcjfafbmhceaa
