import Derived.Test.YtfheinghkigocaaC03
import Derived.Test.YtfheinghkigocaaC01
import Derived.ProofKit
import Derived.OpenShut
import Derived.ShutString
import Derived.ChangeOld
import Derived.Below
import Derived.SizedLaws
import Derived.Deep.Slices
import Derived.Deep.Strs
namespace Go.Proofs.Ytfheinghkigocaa
open Go.RowKit
set_option linter.unusedSimpArgs false
set_option linter.unusedVariables false

theorem Try.in10 (w : World) (vs : Array Value) : (callFunc 10 vs).run Try.prog w = .ok (.enter 10 vs) w := by kernel_rfl
theorem Try.in11 (w : World) (vs : Array Value) : (callFunc 11 vs).run Try.prog w = .ok (.enter 11 vs) w := by kernel_rfl
theorem Try.in12 (w : World) (vs : Array Value) : (callFunc 12 vs).run Try.prog w = .ok (.enter 12 vs) w := by kernel_rfl
theorem Try.in20 (w : World) (vs : Array Value) : (callFunc 20 vs).run Try.prog w = .ok (.enter 20 vs) w := by kernel_rfl
theorem Try.in34 (w : World) (vs : Array Value) : (callFunc 34 vs).run Try.prog w = .ok (.enter 34 vs) w := by kernel_rfl

/-! ### Digests. -/
/-- A bit laid. -/
def setB (l : List Int) (p : Nat) : List Int := l.set (p / 8) (bits .or .u8 (l.getD (p / 8) 0) (2 ^ (p % 8)))
theorem setB_len (l : List Int) (p : Nat) : (setB l p).length = l.length := by simp [setB]
def addU (l : List Int) (f : Nat → Int) : Nat → List Int
  | 0 => l
  | k + 1 => setB (addU l f k) (f k).toNat
theorem addU_len (l : List Int) (f : Nat → Int) : ∀ k, (addU l f k).length = l.length
  | 0 => rfl
  | k + 1 => by rw [addU, setB_len, addU_len l f k]
def digU (s : Int) (n : Nat) (L : List Hs) : Nat → List Int
  | 0 => List.replicate n 0
  | t + 1 => addU (digU s n L t) (plc s (L.getD t default) n) 4
theorem digU_len (s : Int) (n : Nat) (L : List Hs) : ∀ t, (digU s n L t).length = n
  | 0 => by simp [digU]
  | t + 1 => by rw [digU, addU_len, digU_len s n L t]
/-- The digest of hashes. -/
def digL (s : Int) (L : List Hs) : List Int := digU s (szN L.length) L L.length
theorem digL_len (s : Int) (L : List Hs) : (digL s L).length = szN L.length := digU_len _ _ _ _
theorem or_u8 (a b : Int) (ha : 0 ≤ a ∧ a < 256) (hb : 0 ≤ b ∧ b < 256) : 0 ≤ bits .or .u8 a b ∧ bits .or .u8 a b < 256 := by
  have h : ∀ a b : Fin 256, 0 ≤ bits .or .u8 (a.val : Int) (b.val : Int) ∧ bits .or .u8 (a.val : Int) (b.val : Int) < 256 := by
    intro a b
    have := bits_nat .u8 8 (by decide) (fun n h0 h1 => by rw [IntKind.wrap_u8]; omega) a.val b.val a.isLt b.isLt
    rw [this.2]
    have h3 := Nat.or_lt_two_pow (x := a.val) (y := b.val) (n := 8) a.isLt b.isLt
    omega
  have := h ⟨a.toNat, by omega⟩ ⟨b.toNat, by omega⟩
  simpa [Int.toNat_of_nonneg ha.1, Int.toNat_of_nonneg hb.1] using this
theorem pow8 (r : Nat) (h : r < 8) : (0 : Int) ≤ 2 ^ r ∧ (2 : Int) ^ r < 256 := by
  have h2 : ∀ r : Fin 8, (0 : Int) ≤ 2 ^ r.val ∧ (2 : Int) ^ r.val < 256 := by decide
  exact h2 ⟨r, h⟩
theorem Byts.set {l : List Int} (h : Byts l) (i : Nat) {c : Int} (hc : 0 ≤ c ∧ c < 256) : Byts (l.set i c) := fun z hz => by
  rcases List.mem_or_eq_of_mem_set hz with h1 | rfl
  · exact h z h1
  · exact hc
theorem setB_byts {l : List Int} (h : Byts l) (p : Nat) : Byts (setB l p) := h.set _ (or_u8 _ _ (h.getD _) (pow8 _ (by omega)))
theorem addU_byts {l : List Int} (h : Byts l) (f : Nat → Int) : ∀ k, Byts (addU l f k)
  | 0 => h
  | k + 1 => setB_byts (addU_byts h f k) _
theorem digU_byts (s : Int) (n : Nat) (L : List Hs) : ∀ t, Byts (digU s n L t)
  | 0 => fun z hz => by rw [(List.mem_replicate.1 hz).2]; omega
  | t + 1 => addU_byts (digU_byts s n L t) _ 4
theorem digL_byts (s : Int) (L : List Hs) : Byts (digL s L) := digU_byts _ _ _ _
theorem own_zeros {w : World} {g n : Nat} (h : Blk w g 5 (bytesA n fun _ => 0)) (hn : n ≤ 8192) : Own w (.slice (some ⟨g, 0, none⟩) n n) (List.replicate n 0) := by
  refine ⟨by simp [bv_len], .inr ⟨g, n, _, by simp, Nat.zero_le _, h, by simp, by unfold maxLen; omega, by simp [bytesA_size], ?_⟩⟩
  rw [List.length_replicate, Nat.mul_one, List.take_of_length_le (by rw [Array.length_toList, bytesA_size]; omega), hl_bytesA]
  congr 1
  apply List.ext_getElem?
  intro i
  by_cases hi : i < n <;> simp [hl, hi]
theorem index51 (c : Nat → Int) (t : Nat) (ht : t < 4) (w : World) : (Instr.index 51 (.agg (intA c)) (.int .i64 (t : Int))).run Try.prog w = .ok (.int .i64 (c t)) w := by
  match t, ht with
  | 0, _ => exact (show (Instr.index 51 (.agg (intA c)) (.int .i64 0)).run Try.prog w = .ok (.int .i64 (c 0)) w by kernel_rfl)
  | 1, _ => exact (show (Instr.index 51 (.agg (intA c)) (.int .i64 1)).run Try.prog w = .ok (.int .i64 (c 1)) w by kernel_rfl)
  | 2, _ => exact (show (Instr.index 51 (.agg (intA c)) (.int .i64 2)).run Try.prog w = .ok (.int .i64 (c 2)) w by kernel_rfl)
  | 3, _ => exact (show (Instr.index 51 (.agg (intA c)) (.int .i64 3)).run Try.prog w = .ok (.int .i64 (c 3)) w by kernel_rfl)
theorem hash_at {w : World} {a : Option Addr} {n c : Nat} {L : List Hs} (h : HRow w (.slice a n c) L) {t : Nat} (ht : t < L.length) : ∃ b o, a = some ⟨b, o, none⟩ ∧ w.rangeAt b (o + t * 32) (encH (L.getD t default)) := by
  obtain ⟨b, o, h1, _, _, h2⟩ := h.at (by omega)
  refine ⟨b, o, h1, ?_⟩
  have := rangeAt_elem h2 t ht
  rw [show L.getD t default = L[t] by simp [List.getD_eq_getElem?_getD, ht]]
  exact this

set_option maxRecDepth 8000 in
set_option maxHeartbeats 4000000 in
theorem Of_any (s : Int) (L : List Hs) (v : Value) (w : World) (hs : 0 ≤ s ∧ s < 18446744073709551616) (hL : HRow w v L) (hll : L.length ≤ 4398046511104) :
    Calls Try.prog 16 #[.int .u64 s, v] w fun e w' => ∃ v', e = .returned v' ∧ FreshB w v' (digL s L) w' := by
  obtain ⟨a, c, rfl⟩ := hL.form
  have HR := Keep.mk hL
  have Hs := Keep.mk hs
  have HD : Keep (digL s L = digU s (szN L.length) L L.length) := ⟨rfl⟩
  have hn := szN_rng L.length
  have HSZ := Keep.mk (size_any L.length w)
  obtain ⟨n, hnn⟩ : ∃ n, Keep (n = szN L.length) := ⟨_, ⟨rfl⟩⟩
  rw [← hnn.out] at HD hn HSZ
  clear hs hL
  have hmk := run_makeB n n (Nat.le_refl _) (by omega) w
  have HB := Keep.mk (below_new w (.cells (bytesA n fun _ => 0) 5))
  have HO := Keep.mk (own_zeros (Blk.new w 5 (bytesA n fun _ => 0)) (by omega))
  go_enter Try.func16, Try.ntmps16
  go_wp2_with (first | (go_at_call 10; refine HSZ.out.mono ?_; rintro e w' ⟨rfl, rfl⟩))
  clear HSZ hmk
  obtain ⟨gb, hgb⟩ : ∃ g, Keep (g = w'.heap.size) := ⟨_, ⟨rfl⟩⟩
  rw [← hgb.out] at HO ⊢
  have hgeb : w'.heap.size ≤ gb := by rw [hgb.out]; exact Nat.le_refl _
  generalize w'.alloc (.cells (bytesA n fun _ => 0) 5) = wa at *
  go_loopw [16] (fun i wr => ∃ t : Nat, t ≤ L.length ∧ i = .int .i64 t ∧ Own wr (.slice (some ⟨gb, 0, none⟩) n n) (digU s n L t) ∧ Below w'.heap.size w' wr) (fun i _ => L.length - (intOf i).toNat)
  case atStart => exact ⟨0, by omega, rfl, HO.out, HB.out⟩
  case round =>
    clear HO HB
    obtain ⟨t, ht, rfl, hO, hB⟩ := hrel
    by_cases hlt : t < L.length
    · have hlt' : (t : Int) < L.length := by omega
      obtain ⟨b, o, rfl, hrg⟩ := hash_at (HR.out.below hB) hlt
      have HDn : Keep (digU s n L (t + 1) = addU (digU s n L t) (plc s (L.getD t default) n) 4) := ⟨rfl⟩
      have hl0 : Keep ((digU s n L t).length = n) := ⟨digU_len _ _ _ _⟩
      obtain ⟨x, hx⟩ : ∃ x, Keep (x = L.getD t default) := ⟨_, ⟨rfl⟩⟩
      rw [← hx.out] at HDn hrg
      obtain ⟨l, hl⟩ : ∃ l, Keep (l = digU s n L t) := ⟨_, ⟨rfl⟩⟩
      rw [← hl.out] at HDn hO hl0
      have HO := Keep.mk hO
      have HB := Keep.mk hB
      clear hO hB
      obtain ⟨ch, Hch⟩ : ∃ ch, Keep (ch = bytesA 32 x.f) := ⟨_, ⟨rfl⟩⟩
      have HIch : Keep ((Try.prog.info? 27).map (·.size) = some ch.size) := ⟨by rw [Hch.out]; exact Try.size27B _⟩
      have HOch : Keep (ch.all (·.oneCell') = true) := ⟨by rw [Hch.out]; exact bytesA_one _ _⟩
      have HZch : Keep ((bytesA 32 fun _ => 0).size = ch.size) := ⟨by rw [Hch.out]; exact bytesA_sizes _ _ _⟩
      have hCA : (encH x).toArray = ch := by rw [Hch.out]; exact encH_arr x
      have hiL : (Try.prog.info? 27).map (·.size) = some (encH x).length := Try.size27L x
      have hu := Try.underlying27
      obtain ⟨cp, Hcp⟩ : ∃ cp, Keep (cp = intA (plc s x n)) := ⟨_, ⟨rfl⟩⟩
      have HC : Keep (∀ w, Calls Try.prog 32 #[.int .u64 s, .agg ch, .int .i64 (n : Int)] w fun e w' => e = .returned (.agg cp) ∧ Below w.heap.size w w') := ⟨fun w => by rw [Hch.out, Hcp.out]; exact places_any s x n w Hs.out (by omega)⟩
      have HIX : Keep (∀ k : Nat, k < 4 → ∀ w, (Instr.index 51 (.agg cp) (.int .i64 (k : Int))).run Try.prog w = .ok (.int .i64 (plc s x n k)) w) := ⟨fun k hk w => by rw [Hcp.out]; exact index51 _ k hk w⟩
      go_wp2_with (first | (refine wpList_load_midG (by rfl) 27 (.tmp 18) rfl b (o + t * 32) rfl (encH x) _ hrg hu rfl hiL ?_; rw [hCA]) | (refine wpList_new rfl 27 rfl _ Try.new27 ?_; refine Hid.out ?_))
      refine hid_in ?_
      have H7 := Keep.mk (Blk.new wr 27 (bytesA 32 fun _ => 0))
      have HOa := Keep.mk (HO.out.box (.cells (bytesA 32 fun _ => 0) 27))
      have HBa := Keep.mk (HB.out.alloc HB.out.size (.cells (bytesA 32 fun _ => 0) 27))
      obtain ⟨g7, hg7⟩ : ∃ g, Keep (g = wr.heap.size) := ⟨_, ⟨rfl⟩⟩
      have hge7 : w'.heap.size ≤ g7 := by rw [hg7.out]; exact HB.out.size
      have hne7 := HO.out.lt gb rfl
      rw [← hg7.out] at H7 hne7 ⊢
      have hnb7 : gb ≠ g7 := by omega
      generalize wr.alloc (.cells (bytesA 32 fun _ => 0) 27) = w1 at *
      clear HO HB hrg hne7
      go_wp2_with (first | (refine wpList_store_row rfl 27 (.tmp 7) (.tmp 19) rfl g7 ch rfl rfl 27 (bytesA 32 fun _ => 0) H7.out HIch.out HZch.out HOch.out ?_; refine Hid.out ?_))
      refine hid_in ?_
      have H7b := Keep.mk (H7.out.setRow ch)
      have HOb := Keep.mk (HOa.out.grown (Grown.setRow w1 g7 ch (S := fun k => k = g7) fun _ => rfl) fun k hk e => by simp [Value.ownBlock] at hk; omega)
      have HBb := Keep.mk (below_setRow HBa.out hge7 ch)
      generalize w1.setRow g7 ch = w2 at *
      clear H7 HOa HBa
      go_wp2_with (first | (refine wpList_load_row rfl 27 (.tmp 7) rfl g7 rfl 27 ch (0, 0) (.array 32 5) H7b.out Try.underlying27 rfl HIch.out ?_))
      refine (HC.out _).mono ?_
      rintro e w3 ⟨rfl, hb3⟩
      have HOc := Keep.mk (HOb.out.grown (Grown.below (S := fun _ => False) hb3) fun _ _ h => h)
      have HBc := Keep.mk (HBb.out.trans (hb3.mono HBb.out.size))
      clear hb3 H7b HOb HBb HC hCA hiL hu
      go_wp2_with fail
      go_loopw [25] (fun i wr => ∃ k : Nat, k ≤ 4 ∧ i = .int .i64 k ∧ Own wr (.slice (some ⟨gb, 0, none⟩) n n) (addU l (plc s x n) k) ∧ Below w'.heap.size w' wr) (fun i _ => 4 - (intOf i).toNat)
      case atStart => exact ⟨0, by omega, rfl, HOc.out, HBc.out⟩
      case round =>
        clear HOc HBc
        obtain ⟨k, hk, rfl, hO, hB⟩ := hrel
        by_cases hlk : k < 4
        · have hlk' : (k : Int) < 4 := by omega
          have hix := HIX.out k hlk wr
          have hpr := plc_rng s x n (by omega) k
          obtain ⟨p, hp⟩ : ∃ p : Nat, plc s x n k = (p : Int) := ⟨(plc s x n k).toNat, by omega⟩
          obtain ⟨q, hq⟩ : ∃ q, Keep (q = p / 8) := ⟨_, ⟨rfl⟩⟩
          obtain ⟨r, hr⟩ : ∃ r, Keep (r = p % 8) := ⟨_, ⟨rfl⟩⟩
          have hi8 : (p : Int) / 8 = (q : Int) := by rw [hq.out]; omega
          have hm8 : (p : Int) % 8 = (r : Int) := by rw [hr.out]; omega
          have hqn : q < n := by rw [hq.out]; omega
          have hqn' : (q : Int) < n := by omega
          have hr8 : r < 8 := by rw [hr.out]; omega
          have hp8 := pow8 r hr8
          have hqw : IntKind.i64.wrap (q : Int) = q := by rw [IntKind.wrap_i64]; omega
          have hmt : (p : Int).tmod 8 = (r : Int) := by rw [Int.tmod_eq_emod_of_nonneg (by omega)]; exact hm8
          have hsl : IntKind.u8.wrap (2 ^ r) = 2 ^ r := by rw [IntKind.wrap_u8]; omega
          have hlen : (addU l (plc s x n) k).length = n := by rw [addU_len]; exact hl0.out
          have hnx : Keep (addU l (plc s x n) (k + 1) = (addU l (plc s x n) k).set q (bits .or .u8 ((addU l (plc s x n) k).getD q 0) (2 ^ r))) := ⟨by rw [addU, setB, hp, Int.toNat_natCast, ← hq.out, ← hr.out]⟩
          have cb : wr.drew.cell? ⟨gb, q, none⟩ = some (.int .u8 ((addU l (plc s x n) k).getD q 0)) := (hO.cells q (by rw [hlen]; exact hqn)).1
          have ff : wr.drew.frozen? ⟨gb, q, none⟩ = false := (hO.cells q (by rw [hlen]; exact hqn)).2
          have HOn := Keep.mk ((show Own wr.drew _ _ from hO).set q (bits .or .u8 ((addU l (plc s x n) k).getD q 0) (2 ^ r)))
          rw [← hnx.out] at HOn
          have HBn := Keep.mk ((hB.drew).setCell hgeb (p := ⟨gb, q, none⟩) (.int .u8 (bits .or .u8 ((addU l (plc s x n) k).getD q 0) (2 ^ r))))
          rw [hp] at hix
          clear hO hB hp hpr hlen hnx
          generalize (addU l (plc s x n) k).getD q 0 = z at *
          go_wp2_with fail
          refine wp_region_held_drew (S := fun _ => True) (by kernel_rfl) trivial (fun hHeld => ?_)
          generalize wr.drew = wd at *
          refine wpAnyH_take (i := 0) (oi := ⟨some 28, Op.move (Operand.tmp 5), 35, _, _, none⟩) (v := .slice (some ⟨gb, 0, none⟩) n n) rfl (by kernel_rfl) (by kernel_rfl) (by kernel_rfl) (fun _ _ _ h => h) (Or.inl ⟨by rfl, fun w hS => by go_simp⟩) hHeld ?_
          simp only [Act.put, List.setIfInBounds_toArray, List.set_cons_zero, List.set_cons_succ]
          refine wpAnyH_take (i := 1) (oi := ⟨some 29, Op.move (Operand.tmp 9), 3, _, _, none⟩) (v := .int .i64 (p : Int)) rfl (by kernel_rfl) (by kernel_rfl) (by kernel_rfl) (fun _ _ _ h => h) (Or.inl ⟨by rfl, fun w hS => by go_simp⟩) hHeld ?_
          simp only [Act.put, List.setIfInBounds_toArray, List.set_cons_zero, List.set_cons_succ]
          refine wpAnyH_take (i := 2) (oi := ⟨some 30, Op.binOp BinOp.quo 3 (Operand.tmp 29) (Operand.const (Value.int IntKind.i64 8)) 3, 3, _, _, none⟩) (v := .int .i64 (q : Int)) rfl (by kernel_rfl) (by kernel_rfl) (by kernel_rfl) (fun _ _ _ h => h) (Or.inl ⟨by rfl, fun w hS => by go_simp⟩) hHeld ?_
          simp only [Act.put, List.setIfInBounds_toArray, List.set_cons_zero, List.set_cons_succ]
          refine wpAnyH_take (i := 3) (oi := ⟨some 31, Op.indexAddr 35 (Operand.tmp 28) (Operand.tmp 30), 0, _, _, none⟩) (v := .pointer (some ⟨gb, q, none⟩)) rfl (by kernel_rfl) (by kernel_rfl) (by kernel_rfl) (fun _ _ _ h => h) (Or.inl ⟨by rfl, fun w hS => by go_simp⟩) hHeld ?_
          simp only [Act.put, List.setIfInBounds_toArray, List.set_cons_zero, List.set_cons_succ]
          refine wpAnyH_take (i := 5) (oi := ⟨some 33, Op.move (Operand.tmp 9), 3, _, _, none⟩) (v := .int .i64 (p : Int)) rfl (by kernel_rfl) (by kernel_rfl) (by kernel_rfl) (fun _ _ _ h => h) (Or.inl ⟨by rfl, fun w hS => by go_simp⟩) hHeld ?_
          simp only [Act.put, List.setIfInBounds_toArray, List.set_cons_zero, List.set_cons_succ]
          refine wpAnyH_take (i := 6) (oi := ⟨some 34, Op.binOp BinOp.rem 3 (Operand.tmp 33) (Operand.const (Value.int IntKind.i64 8)) 3, 3, _, _, none⟩) (v := .int .i64 (r : Int)) rfl (by kernel_rfl) (by kernel_rfl) (by kernel_rfl) (fun _ _ _ h => h) (Or.inl ⟨by rfl, fun w hS => by go_simp⟩) hHeld ?_
          simp only [Act.put, List.setIfInBounds_toArray, List.set_cons_zero, List.set_cons_succ]
          refine wpAnyH_take (i := 7) (oi := ⟨some 35, Op.binOp BinOp.shl 5 (Operand.const (Value.int IntKind.u8 1)) (Operand.tmp 34) 3, 5, _, _, none⟩) (v := .int .u8 (2 ^ r)) rfl (by kernel_rfl) (by kernel_rfl) (by kernel_rfl) (fun _ _ _ h => h) (Or.inl ⟨by rfl, fun w hS => by go_simp⟩) hHeld ?_
          simp only [Act.put, List.setIfInBounds_toArray, List.set_cons_zero, List.set_cons_succ]
          refine wpAnyH_ready (rs := [4]) (by kernel_rfl) (by simp) ?_
          refine AllReadyH.cons (o := ⟨some 32, Op.load 5 (Operand.tmp 31), 5, _, _, none⟩) rfl (fun K hK => ?_) (AllReadyH.nil)
          all_goals rw [if_pos (by rfl)]
          refine wp_val (.int .u8 z) (by go_simp) ?_
          refine hK.out _ _ trivial fun hHeld => ?_
          clear hK
          simp only [Act.put, List.setIfInBounds_toArray, List.set_cons_zero, List.set_cons_succ]
          refine wpAnyH_take (i := 8) (oi := ⟨some 36, Op.binOp BinOp.or 5 (Operand.tmp 32) (Operand.tmp 35) 5, 5, _, _, none⟩) (v := .int .u8 (bits .or .u8 z (2 ^ r))) rfl (by kernel_rfl) (by kernel_rfl) (by kernel_rfl) (fun _ _ _ h => h) (Or.inl ⟨by rfl, fun w hS => by go_simp⟩) hHeld ?_
          simp only [Act.put, List.setIfInBounds_toArray, List.set_cons_zero, List.set_cons_succ]
          refine wpAnyH_take (i := 9) (oi := ⟨some 37, Op.indexAddr 35 (Operand.tmp 28) (Operand.tmp 30), 0, _, _, none⟩) (v := .pointer (some ⟨gb, q, none⟩)) rfl (by kernel_rfl) (by kernel_rfl) (by kernel_rfl) (fun _ _ _ h => h) (Or.inl ⟨by rfl, fun w hS => by go_simp⟩) hHeld ?_
          simp only [Act.put, List.setIfInBounds_toArray, List.set_cons_zero, List.set_cons_succ]
          refine wpAnyH_ready (rs := [10]) (by kernel_rfl) (by simp) ?_
          refine AllReadyH.cons (o := ⟨none, Op.store 5 (Operand.tmp 37) (Operand.tmp 36), 0, _, _, none⟩) rfl (fun K hK => ?_) (AllReadyH.nil)
          all_goals rw [if_pos (by rfl)]
          go_simp
          refine hK.out _ _ trivial fun _ => ?_
          clear hK
          refine wpAnyH_done (by kernel_rfl) ?_ _
          generalize wd.setCell ⟨gb, q, none⟩ (.int .u8 (bits .or .u8 z (2 ^ r))) = we at *
          clear cb ff hHeld
          go_wp2
          go_roundw
          case rel => exact ⟨k + 1, by omega, by go_num, HOn.out, HBn.out⟩
          case measure => simp only [intOf]; omega
        · obtain rfl : k = 4 := by omega
          rw [show ((4 : Nat) : Int) = 4 from rfl]
          have HO := Keep.mk (HDn.out ▸ hO)
          have HB := Keep.mk hB
          clear hO hB HDn
          go_wp2
          go_roundw
          case rel => exact ⟨t + 1, by omega, by go_num, HO.out, HB.out⟩
          case measure => simp only [intOf]; omega
    · obtain rfl : t = L.length := by omega
      have HO := Keep.mk (HD.out ▸ hO)
      have HB := Keep.mk hB
      clear hO hB
      go_wp2
      go_ret
      exact ⟨_, rfl, HO.out, ⟨gb, rfl, hgeb⟩, HB.out⟩

end Go.Proofs.Ytfheinghkigocaa
namespace Go.Proofs.Ytfheinghkigocaa
open Go.RowKit
set_option linter.unusedSimpArgs false
set_option linter.unusedVariables false


set_option maxRecDepth 8000 in
set_option maxHeartbeats 4000000 in
theorem rOf_any (s : Int) (L : List Hs) (v : Value) (w : World) (hs : 0 ≤ s ∧ s < 18446744073709551616) (hL : HRow w v L) (hll : L.length ≤ 4398046511104) :
    Calls Try.prog 15 #[.int .u64 s, v] w fun e w' => ∃ v', e = .returned v' ∧ FreshB w v' (digL s L) w' := by
  obtain ⟨a, c, rfl⟩ := hL.form
  have HR := Keep.mk hL
  have Hs := Keep.mk hs
  have HD : Keep (digL s L = digU s (szN L.length) L L.length) := ⟨rfl⟩
  have hn := szN_rng L.length
  have HP := Keep.mk (isP_sz L.length)
  have HSZ := Keep.mk (rsize_any L.length w)
  obtain ⟨n, hnn⟩ : ∃ n, Keep (n = szN L.length) := ⟨_, ⟨rfl⟩⟩
  rw [← hnn.out] at HD hn HSZ HP
  clear hs hL
  have hmk := run_makeB n n (Nat.le_refl _) (by omega) w
  have HB := Keep.mk (below_new w (.cells (bytesA n fun _ => 0) 5))
  have HO := Keep.mk (own_zeros (Blk.new w 5 (bytesA n fun _ => 0)) (by omega))
  go_enter Try.func15, Try.ntmps15
  go_wp2_with (first | (go_at_call 11; refine HSZ.out.mono ?_; rintro e w' ⟨rfl, rfl⟩))
  clear HSZ hmk
  obtain ⟨gb, hgb⟩ : ∃ g, Keep (g = w'.heap.size) := ⟨_, ⟨rfl⟩⟩
  rw [← hgb.out] at HO ⊢
  have hgeb : w'.heap.size ≤ gb := by rw [hgb.out]; exact Nat.le_refl _
  generalize w'.alloc (.cells (bytesA n fun _ => 0) 5) = wa at *
  go_loopw [6] (fun i wr => ∃ t : Nat, t ≤ L.length ∧ i = .int .i64 t ∧ Own wr (.slice (some ⟨gb, 0, none⟩) n n) (digU s n L t) ∧ Below w'.heap.size w' wr) (fun i _ => L.length - (intOf i).toNat)
  case atStart => exact ⟨0, by omega, rfl, HO.out, HB.out⟩
  case round =>
    clear HO HB
    obtain ⟨t, ht, rfl, hO, hB⟩ := hrel
    by_cases hlt : t < L.length
    · have hlt' : (t : Int) < L.length := by omega
      obtain ⟨b, o, rfl, hrg⟩ := hash_at (HR.out.below hB) hlt
      have HDn : Keep (digU s n L (t + 1) = addU (digU s n L t) (plc s (L.getD t default) n) 4) := ⟨rfl⟩
      have hl0 : Keep ((digU s n L t).length = n) := ⟨digU_len _ _ _ _⟩
      obtain ⟨x, hx⟩ : ∃ x, Keep (x = L.getD t default) := ⟨_, ⟨rfl⟩⟩
      rw [← hx.out] at HDn hrg
      obtain ⟨l, hl⟩ : ∃ l, Keep (l = digU s n L t) := ⟨_, ⟨rfl⟩⟩
      rw [← hl.out] at HDn hO hl0
      have HO := Keep.mk hO
      have HB := Keep.mk hB
      clear hO hB
      obtain ⟨ch, Hch⟩ : ∃ ch, Keep (ch = bytesA 32 x.f) := ⟨_, ⟨rfl⟩⟩
      have HIch : Keep ((Try.prog.info? 27).map (·.size) = some ch.size) := ⟨by rw [Hch.out]; exact Try.size27B _⟩
      have HOch : Keep (ch.all (·.oneCell') = true) := ⟨by rw [Hch.out]; exact bytesA_one _ _⟩
      have HZch : Keep ((bytesA 32 fun _ => 0).size = ch.size) := ⟨by rw [Hch.out]; exact bytesA_sizes _ _ _⟩
      have hCA : (encH x).toArray = ch := by rw [Hch.out]; exact encH_arr x
      have hiL : (Try.prog.info? 27).map (·.size) = some (encH x).length := Try.size27L x
      have hu := Try.underlying27
      have HC : Keep (∀ w, Calls Try.prog 12 #[.int .u64 s, .agg ch, .int .i64 (n : Int)] w fun e w' => ∃ v, e = .returned v ∧ NewJ w v (plcL s x n) w') := ⟨fun w => by
        rw [Hch.out]
        have := rPlaces_any s x n w Hs.out
        rw [plL, if_pos HP.out] at this
        exact this⟩
      go_wp2_with (first | (refine wpList_load_midG (by rfl) 27 (.tmp 22) rfl b (o + t * 32) rfl (encH x) _ hrg hu rfl hiL ?_; rw [hCA]))
      refine (HC.out _).mono ?_
      rintro e w3 ⟨vp, rfl, hJ⟩
      obtain ⟨pa, pc, rfl⟩ := hJ.1.sl
      obtain ⟨gp, rfl, -, -, hgp⟩ := hJ.1.at (i := 0) (by rw [plcL_len]; omega)
      have hgeP := hJ.2.1 gp rfl
      have hnbp : gb ≠ gp := by have := HO.out.lt gb rfl; omega
      have HOc := Keep.mk (HO.out.grown (Grown.below (S := fun _ => False) hJ.2.2) fun _ _ h => h)
      have HBc := Keep.mk (HB.out.trans (hJ.2.2.mono HB.out.size))
      have HJ := Keep.mk hJ.1
      rw [plcL_len] at HJ ⊢
      clear hJ HC hCA hiL hu HO HB hrg hgp hgeP
      go_wp2_with fail
      go_loopw [8] (fun i wr => ∃ k : Nat, k ≤ 4 ∧ i = .int .i64 k ∧ Own wr (.slice (some ⟨gb, 0, none⟩) n n) (addU l (plc s x n) k) ∧ OwnJ wr (.slice (some ⟨gp, 0, none⟩) 4 pc) (plcL s x n) ∧ Below w'.heap.size w' wr) (fun i _ => 4 - (intOf i).toNat)
      case atStart => exact ⟨0, by omega, rfl, HOc.out, HJ.out, HBc.out⟩
      case round =>
        clear HOc HBc HJ
        obtain ⟨k, hk, rfl, hO, hJ, hB⟩ := hrel
        by_cases hlk : k < 4
        · have hlk' : (k : Int) < 4 := by omega
          have hpr := plc_rng s x n (by omega) k
          obtain ⟨p, hp⟩ : ∃ p : Nat, plc s x n k = (p : Int) := ⟨(plc s x n k).toNat, by omega⟩
          obtain ⟨q, hq⟩ : ∃ q, Keep (q = p / 8) := ⟨_, ⟨rfl⟩⟩
          obtain ⟨r, hr⟩ : ∃ r, Keep (r = p % 8) := ⟨_, ⟨rfl⟩⟩
          have hi8 : (p : Int) / 8 = (q : Int) := by rw [hq.out]; omega
          have hm8 : (p : Int) % 8 = (r : Int) := by rw [hr.out]; omega
          have hqn : q < n := by rw [hq.out]; omega
          have hqn' : (q : Int) < n := by omega
          have hr8 : r < 8 := by rw [hr.out]; omega
          have hp8 := pow8 r hr8
          have hqw : IntKind.i64.wrap (q : Int) = q := by rw [IntKind.wrap_i64]; omega
          have hmt : (p : Int).tmod 8 = (r : Int) := by rw [Int.tmod_eq_emod_of_nonneg (by omega)]; exact hm8
          have hsl : IntKind.u8.wrap (2 ^ r) = 2 ^ r := by rw [IntKind.wrap_u8]; omega
          have hlen : (addU l (plc s x n) k).length = n := by rw [addU_len]; exact hl0.out
          have hnx : Keep (addU l (plc s x n) (k + 1) = (addU l (plc s x n) k).set q (bits .or .u8 ((addU l (plc s x n) k).getD q 0) (2 ^ r))) := ⟨by rw [addU, setB, hp, Int.toNat_natCast, ← hq.out, ← hr.out]⟩
          have cb : wr.drew.cell? ⟨gb, q, none⟩ = some (.int .u8 ((addU l (plc s x n) k).getD q 0)) := (hO.cells q (by rw [hlen]; exact hqn)).1
          have ff : wr.drew.frozen? ⟨gb, q, none⟩ = false := (hO.cells q (by rw [hlen]; exact hqn)).2
          have HOn := Keep.mk ((show Own wr.drew _ _ from hO).set q (bits .or .u8 ((addU l (plc s x n) k).getD q 0) (2 ^ r)))
          rw [← hnx.out] at HOn
          have HBn := Keep.mk ((hB.drew).setCell hgeb (p := ⟨gb, q, none⟩) (.int .u8 (bits .or .u8 ((addU l (plc s x n) k).getD q 0) (2 ^ r))))
          have HJn := Keep.mk ((show OwnJ wr.drew _ _ from hJ).setNe (g := gb) (by simp [Value.ownBlock]; omega) q (.int .u8 (bits .or .u8 ((addU l (plc s x n) k).getD q 0) (2 ^ r))))
          obtain ⟨_, e1, cp1, _, _⟩ := (show OwnJ wr.drew _ _ from hJ).at (i := k) (by rw [plcL_len]; exact hlk)
          injection e1 with e1
          injection e1 with e1
          subst e1
          rw [plcL_get _ _ _ _ hlk, hp] at cp1
          have hpx : Keep ((wr.drew.setCell ⟨gb, q, none⟩ (.int .u8 (bits .or .u8 ((addU l (plc s x n) k).getD q 0) (2 ^ r)))).cell? ⟨gp, k, none⟩ = some (.int .i64 (p : Int))) := ⟨by
            obtain ⟨_, e1, cq1, _, _⟩ := HJn.out.at (i := k) (by rw [plcL_len]; exact hlk)
            injection e1 with e1
            injection e1 with e1
            subst e1
            rw [cq1, plcL_get _ _ _ _ hlk, hp]⟩
          clear hO hB hp hpr hlen hnx hJ
          generalize (addU l (plc s x n) k).getD q 0 = z at *
          go_wp2_with fail
          refine wp_region_held_drew (S := fun wx => wx.cell? ⟨gp, k, none⟩ = some (.int .i64 (p : Int))) (by kernel_rfl) cp1 (fun hHeld => ?_)
          generalize wr.drew = wd at *
          refine wpAnyH_take (i := 0) (oi := ⟨some 33, Op.move (Operand.tmp 5), 35, _, _, none⟩) (v := .slice (some ⟨gb, 0, none⟩) n n) rfl (by kernel_rfl) (by kernel_rfl) (by kernel_rfl) (fun _ _ _ h => h) (Or.inl ⟨by rfl, fun w hS => by go_simp⟩) hHeld ?_
          simp only [Act.put, List.setIfInBounds_toArray, List.set_cons_zero, List.set_cons_succ]
          refine wpAnyH_take (i := 1) (oi := ⟨some 34, Op.move (Operand.tmp 7), 28, _, _, none⟩) (v := .slice (some ⟨gp, 0, none⟩) 4 pc) rfl (by kernel_rfl) (by kernel_rfl) (by kernel_rfl) (fun _ _ _ h => h) (Or.inl ⟨by rfl, fun w hS => by go_simp⟩) hHeld ?_
          simp only [Act.put, List.setIfInBounds_toArray, List.set_cons_zero, List.set_cons_succ]
          refine wpAnyH_take (i := 2) (oi := ⟨some 35, Op.move (Operand.tmp 8), 3, _, _, none⟩) (v := .int .i64 (k : Int)) rfl (by kernel_rfl) (by kernel_rfl) (by kernel_rfl) (fun _ _ _ h => h) (Or.inl ⟨by rfl, fun w hS => by go_simp⟩) hHeld ?_
          simp only [Act.put, List.setIfInBounds_toArray, List.set_cons_zero, List.set_cons_succ]
          refine wpAnyH_take (i := 3) (oi := ⟨some 36, Op.indexAddr 28 (Operand.tmp 34) (Operand.tmp 35), 0, _, _, none⟩) (v := .pointer (some ⟨gp, k, none⟩)) rfl (by kernel_rfl) (by kernel_rfl) (by kernel_rfl) (fun _ _ _ h => h) (Or.inl ⟨by rfl, fun w hS => by go_simp⟩) hHeld ?_
          simp only [Act.put, List.setIfInBounds_toArray, List.set_cons_zero, List.set_cons_succ]
          refine wpAnyH_take (i := 4) (oi := ⟨some 37, Op.load 3 (Operand.tmp 36), 3, _, _, none⟩) (v := .int .i64 (p : Int)) rfl (by kernel_rfl) (by kernel_rfl) (by kernel_rfl) (fun _ _ _ h => h) (Or.inl ⟨by rfl, fun w hS => by have h1 := hS; go_simp⟩) hHeld ?_
          simp only [Act.put, List.setIfInBounds_toArray, List.set_cons_zero, List.set_cons_succ]
          refine wpAnyH_take (i := 5) (oi := ⟨some 38, Op.binOp BinOp.quo 3 (Operand.tmp 37) (Operand.const (Value.int IntKind.i64 8)) 3, 3, _, _, none⟩) (v := .int .i64 (q : Int)) rfl (by kernel_rfl) (by kernel_rfl) (by kernel_rfl) (fun _ _ _ h => h) (Or.inl ⟨by rfl, fun w hS => by go_simp⟩) hHeld ?_
          simp only [Act.put, List.setIfInBounds_toArray, List.set_cons_zero, List.set_cons_succ]
          refine wpAnyH_take (i := 6) (oi := ⟨some 39, Op.indexAddr 35 (Operand.tmp 33) (Operand.tmp 38), 0, _, _, none⟩) (v := .pointer (some ⟨gb, q, none⟩)) rfl (by kernel_rfl) (by kernel_rfl) (by kernel_rfl) (fun _ _ _ h => h) (Or.inl ⟨by rfl, fun w hS => by go_simp⟩) hHeld ?_
          simp only [Act.put, List.setIfInBounds_toArray, List.set_cons_zero, List.set_cons_succ]
          refine wpAnyH_take (i := 8) (oi := ⟨some 41, Op.move (Operand.tmp 7), 28, _, _, none⟩) (v := .slice (some ⟨gp, 0, none⟩) 4 pc) rfl (by kernel_rfl) (by kernel_rfl) (by kernel_rfl) (fun _ _ _ h => h) (Or.inl ⟨by rfl, fun w hS => by go_simp⟩) hHeld ?_
          simp only [Act.put, List.setIfInBounds_toArray, List.set_cons_zero, List.set_cons_succ]
          refine wpAnyH_take (i := 9) (oi := ⟨some 42, Op.move (Operand.tmp 8), 3, _, _, none⟩) (v := .int .i64 (k : Int)) rfl (by kernel_rfl) (by kernel_rfl) (by kernel_rfl) (fun _ _ _ h => h) (Or.inl ⟨by rfl, fun w hS => by go_simp⟩) hHeld ?_
          simp only [Act.put, List.setIfInBounds_toArray, List.set_cons_zero, List.set_cons_succ]
          refine wpAnyH_take (i := 10) (oi := ⟨some 43, Op.indexAddr 28 (Operand.tmp 41) (Operand.tmp 42), 0, _, _, none⟩) (v := .pointer (some ⟨gp, k, none⟩)) rfl (by kernel_rfl) (by kernel_rfl) (by kernel_rfl) (fun _ _ _ h => h) (Or.inl ⟨by rfl, fun w hS => by go_simp⟩) hHeld ?_
          simp only [Act.put, List.setIfInBounds_toArray, List.set_cons_zero, List.set_cons_succ]
          refine wpAnyH_take (i := 11) (oi := ⟨some 44, Op.load 3 (Operand.tmp 43), 3, _, _, none⟩) (v := .int .i64 (p : Int)) rfl (by kernel_rfl) (by kernel_rfl) (by kernel_rfl) (fun _ _ _ h => h) (Or.inl ⟨by rfl, fun w hS => by have h1 := hS; go_simp⟩) hHeld ?_
          simp only [Act.put, List.setIfInBounds_toArray, List.set_cons_zero, List.set_cons_succ]
          refine wpAnyH_take (i := 12) (oi := ⟨some 45, Op.binOp BinOp.rem 3 (Operand.tmp 44) (Operand.const (Value.int IntKind.i64 8)) 3, 3, _, _, none⟩) (v := .int .i64 (r : Int)) rfl (by kernel_rfl) (by kernel_rfl) (by kernel_rfl) (fun _ _ _ h => h) (Or.inl ⟨by rfl, fun w hS => by go_simp⟩) hHeld ?_
          simp only [Act.put, List.setIfInBounds_toArray, List.set_cons_zero, List.set_cons_succ]
          refine wpAnyH_take (i := 13) (oi := ⟨some 46, Op.binOp BinOp.shl 5 (Operand.const (Value.int IntKind.u8 1)) (Operand.tmp 45) 3, 5, _, _, none⟩) (v := .int .u8 (2 ^ r)) rfl (by kernel_rfl) (by kernel_rfl) (by kernel_rfl) (fun _ _ _ h => h) (Or.inl ⟨by rfl, fun w hS => by go_simp⟩) hHeld ?_
          simp only [Act.put, List.setIfInBounds_toArray, List.set_cons_zero, List.set_cons_succ]
          refine wpAnyH_ready (rs := [7]) (by kernel_rfl) (by simp) ?_
          refine AllReadyH.cons (o := ⟨some 40, Op.load 5 (Operand.tmp 39), 5, _, _, none⟩) rfl (fun K hK => ?_) (AllReadyH.nil)
          all_goals rw [if_pos (by rfl)]
          refine wp_val (.int .u8 z) (by go_simp) ?_
          refine hK.out _ _ hHeld fun hHeld => ?_
          clear hK
          simp only [Act.put, List.setIfInBounds_toArray, List.set_cons_zero, List.set_cons_succ]
          refine wpAnyH_take (i := 14) (oi := ⟨some 47, Op.binOp BinOp.or 5 (Operand.tmp 40) (Operand.tmp 46) 5, 5, _, _, none⟩) (v := .int .u8 (bits .or .u8 z (2 ^ r))) rfl (by kernel_rfl) (by kernel_rfl) (by kernel_rfl) (fun _ _ _ h => h) (Or.inl ⟨by rfl, fun w hS => by go_simp⟩) hHeld ?_
          simp only [Act.put, List.setIfInBounds_toArray, List.set_cons_zero, List.set_cons_succ]
          refine wpAnyH_take (i := 15) (oi := ⟨some 48, Op.indexAddr 35 (Operand.tmp 33) (Operand.tmp 38), 0, _, _, none⟩) (v := .pointer (some ⟨gb, q, none⟩)) rfl (by kernel_rfl) (by kernel_rfl) (by kernel_rfl) (fun _ _ _ h => h) (Or.inl ⟨by rfl, fun w hS => by go_simp⟩) hHeld ?_
          simp only [Act.put, List.setIfInBounds_toArray, List.set_cons_zero, List.set_cons_succ]
          refine wpAnyH_ready (rs := [16]) (by kernel_rfl) (by simp) ?_
          refine AllReadyH.cons (o := ⟨none, Op.store 5 (Operand.tmp 48) (Operand.tmp 47), 0, _, _, none⟩) rfl (fun K hK => ?_) (AllReadyH.nil)
          all_goals rw [if_pos (by rfl)]
          go_simp
          refine hK.out _ _ hpx.out fun _ => ?_
          clear hK
          refine wpAnyH_done (by kernel_rfl) ?_ _
          generalize wd.setCell ⟨gb, q, none⟩ (.int .u8 (bits .or .u8 z (2 ^ r))) = we at *
          clear cb ff hHeld hpx cp1
          go_wp2
          go_roundw
          case rel => exact ⟨k + 1, by omega, by go_num, HOn.out, HJn.out, HBn.out⟩
          case measure => simp only [intOf]; omega
        · obtain rfl : k = 4 := by omega
          rw [show ((4 : Nat) : Int) = 4 from rfl]
          have HO := Keep.mk (HDn.out ▸ hO)
          have HB := Keep.mk hB
          clear hO hB HDn hJ
          go_wp2
          go_roundw
          case rel => exact ⟨t + 1, by omega, by go_num, HO.out, HB.out⟩
          case measure => simp only [intOf]; omega
    · obtain rfl : t = L.length := by omega
      have HO := Keep.mk (HD.out ▸ hO)
      have HB := Keep.mk hB
      clear hO hB
      go_wp2
      go_ret
      exact ⟨_, rfl, HO.out, ⟨gb, rfl, hgeb⟩, HB.out⟩

end Go.Proofs.Ytfheinghkigocaa
namespace Go.Proofs.Ytfheinghkigocaa
open Go.RowKit
set_option linter.unusedSimpArgs false
set_option linter.unusedVariables false

theorem Try.in16 (w : World) (vs : Array Value) : (callFunc 16 vs).run Try.prog w = .ok (.enter 16 vs) w := by kernel_rfl

theorem right_any (v : Value) (l : List Int) (w : World) (h : RowAt w v l) : Calls Try.prog 20 #[v] w fun e w' => e = .returned (.bool (isP l.length)) ∧ w' = w := by
  obtain ⟨a, c, rfl⟩ := row_form h
  have HC := Keep.mk (isSize_any l.length w)
  clear h
  go_enter Try.func20, Try.ntmps20
  go_wp2_with (go_at_call 31; refine HC.out.mono ?_; rintro e w' ⟨rfl, rfl⟩)
  go_ret
  exact ⟨rfl, rfl⟩
theorem rright_any (v : Value) (l : List Int) (w : World) (h : RowAt w v l) : Calls Try.prog 24 #[v] w fun e w' => e = .returned (.bool (isP l.length)) ∧ w' = w := by
  obtain ⟨a, c, rfl⟩ := row_form h
  have HC := Keep.mk (power_any l.length w)
  clear h
  go_enter Try.func24, Try.ntmps24
  go_wp2_with (go_at_call 29; refine HC.out.mono ?_; rintro e w' ⟨rfl, rfl⟩)
  go_ret
  exact ⟨rfl, rfl⟩
theorem and1 (y : Int) (h : 0 ≤ y ∧ y < 256) : bits .and .u8 y 1 = y % 2 := by
  have h2 : ∀ y : Fin 256, bits .and .u8 (y.val : Int) 1 = (y.val : Int) % 2 := by decide +kernel
  have := h2 ⟨y.toNat, by omega⟩
  simpa [Int.toNat_of_nonneg h.1] using this
/-- Are all bits of a hash 1? -/
def hasB (s : Int) (l : List Int) (x : Hs) : Bool := (List.range 4).all fun i => btB l (plc s x l.length i).toNat
theorem hasB_no {s : Int} {l : List Int} {x : Hs} {i : Nat} (hi : i < 4) (h : btB l (plc s x l.length i).toNat = false) : hasB s l x = false := by
  rw [hasB, List.all_eq_false]
  exact ⟨i, by simpa using hi, by simp [h]⟩
theorem hasB_yes {s : Int} {l : List Int} {x : Hs} (h : ∀ i, i < 4 → btB l (plc s x l.length i).toNat = true) : hasB s l x = true := by
  rw [hasB, List.all_eq_true]
  exact fun i hi => h i (by simpa using hi)
theorem bt_and (l : List Int) (hb : Byts l) (p q r : Nat) (hq : q = p / 8) (hr : r = p % 8) (z : Int) (hz : l.getD q 0 = z) : 0 ≤ z / 2 ^ r ∧ (bits .and .u8 (z / 2 ^ r) 1 == 0) = !btB l p := by
  subst hq hr hz
  have hby := hb.getD (p / 8)
  have hp := pow8 (p % 8) (by omega)
  have hpp : (0 : Int) < 2 ^ (p % 8) := Int.pow_pos (by omega)
  unfold btB
  generalize l.getD (p / 8) 0 = z at *
  have h0 : 0 ≤ z / 2 ^ (p % 8) := Int.ediv_nonneg hby.1 (by omega)
  have h1 : z / 2 ^ (p % 8) ≤ z := Int.ediv_le_self _ hby.1
  refine ⟨h0, ?_⟩
  generalize z / 2 ^ (p % 8) = y at *
  rw [and1 y (by omega)]
  rcases Int.emod_two_eq y with h | h <;> simp [h]
def HasPost (s : Int) (l : List Int) (x : Hs) (w : World) (e : Ending) (w' : World) : Prop :=
  e = .returned (.tuple #[.bool (isP l.length && hasB s l x), .int .i64 (if isP l.length = true then 0 else 60)]) ∧ Below w.heap.size w w'

set_option maxRecDepth 8000 in
set_option maxHeartbeats 4000000 in
theorem has_any (s : Int) (v : Value) (l : List Int) (x : Hs) (w : World) (hs : 0 ≤ s ∧ s < 18446744073709551616) (hr : RowAt w v l) (hb : Byts l) :
    Calls Try.prog 22 #[.int .u64 s, v, .agg (bytesA 32 x.f)] w (HasPost s l x w) := by
  unfold HasPost
  obtain ⟨ch, Hch⟩ : ∃ ch, Keep (ch = bytesA 32 x.f) := ⟨_, ⟨rfl⟩⟩
  have HIch : Keep ((Try.prog.info? 27).map (·.size) = some ch.size) := ⟨by rw [Hch.out]; exact Try.size27B _⟩
  have HOch : Keep (ch.all (·.oneCell') = true) := ⟨by rw [Hch.out]; exact bytesA_one _ _⟩
  rw [← Hch.out]
  obtain ⟨a, c, rfl⟩ := row_form hr
  have HRa := Keep.mk (hr.below (below_new w (.cells ch 27)))
  have HB := Keep.mk (below_new w (.cells ch 27))
  have H5 := Keep.mk (Blk.new w 27 ch)
  obtain ⟨g5, hg5⟩ : ∃ g, Keep (g = w.heap.size) := ⟨_, ⟨rfl⟩⟩
  have HRT := Keep.mk (right_any _ l _ HRa.out)
  have HN : Keep (isP l.length = true → (8 : Int) ≤ (l.length : Int) ∧ (l.length : Int) ≤ 8192) := ⟨isP_rng⟩
  have Hs := Keep.mk hs
  have Hb := Keep.mk hb
  clear hs hr hb
  obtain ⟨b, hbb⟩ : ∃ b, b = isP l.length := ⟨_, rfl⟩
  rw [← hbb] at HRT HN ⊢
  clear hbb
  cases b
  · go_enter Try.func22, Try.ntmps22
    go_wp2_with (first | (refine wpList_boxA rfl 27 (.tmp 2) rfl ch rfl ?_; refine Hid.out ?_))
    refine hid_in ?_
    rw [← hg5.out]
    generalize w.alloc (.cells ch 27) = wa at *
    go_wp2_with fail
    refine HRT.out.mono ?_
    rintro e w' ⟨rfl, rfl⟩
    go_wp2
    go_ret2
    exact ⟨rfl, HB.out⟩
  have HNN := Keep.mk (HN.out rfl)
  clear HN
  obtain ⟨cp, Hcp⟩ : ∃ cp, Keep (cp = intA (plc s x l.length)) := ⟨_, ⟨rfl⟩⟩
  have HC : Keep (∀ w, Calls Try.prog 32 #[.int .u64 s, .agg ch, .int .i64 (l.length : Int)] w fun e w' => e = .returned (.agg cp) ∧ Below w.heap.size w w') := ⟨fun w => by rw [Hch.out, Hcp.out]; exact places_any s x l.length w Hs.out HNN.out⟩
  have HIX : Keep (∀ k : Nat, k < 4 → ∀ w, (Instr.index 51 (.agg cp) (.int .i64 (k : Int))).run Try.prog w = .ok (.int .i64 (plc s x l.length k)) w) := ⟨fun k hk w => by rw [Hcp.out]; exact index51 _ k hk w⟩
  go_enter Try.func22, Try.ntmps22
  go_wp2_with (first | (refine wpList_boxA rfl 27 (.tmp 2) rfl ch rfl ?_; refine Hid.out ?_))
  refine hid_in ?_
  rw [← hg5.out] at H5 ⊢
  generalize w.alloc (.cells ch 27) = wa at *
  go_wp2_with fail
  refine HRT.out.mono ?_
  rintro e w' ⟨rfl, rfl⟩
  clear HRT
  go_wp2_with (first | (refine wpList_load_row rfl 27 (.tmp 5) rfl g5 rfl 27 ch (0, 0) (.array 32 5) H5.out Try.underlying27 rfl HIch.out ?_))
  refine (HC.out _).mono ?_
  rintro e wb ⟨rfl, hbb⟩
  have HBb := Keep.mk (HB.out.trans (hbb.mono HB.out.size))
  have HRb := Keep.mk (HRa.out.below hbb)
  clear hbb HB HRa HC H5
  go_wp2_with fail
  go_loop [18] (fun i => ∃ k : Nat, k ≤ 4 ∧ i = .int .i64 k ∧ ∀ i, i < k → btB l (plc s x l.length i).toNat = true) (fun i => 4 - (intOf i).toNat)
  case atStart => exact ⟨0, by omega, rfl, fun i hi => by omega⟩
  case round =>
    obtain ⟨k, hk, rfl, hall⟩ := hrel
    by_cases hlk : k < 4
    · have hlk' : (k : Int) < 4 := by omega
      have hix := HIX.out k hlk wb
      have hn := HNN.out
      have hpr := plc_rng s x l.length hn.1 k
      obtain ⟨p, hp⟩ : ∃ p : Nat, plc s x l.length k = (p : Int) := ⟨(plc s x l.length k).toNat, by omega⟩
      obtain ⟨q, hq⟩ : ∃ q, Keep (q = p / 8) := ⟨_, ⟨rfl⟩⟩
      obtain ⟨r, hr⟩ : ∃ r, Keep (r = p % 8) := ⟨_, ⟨rfl⟩⟩
      have hi8 : (p : Int) / 8 = (q : Int) := by rw [hq.out]; omega
      have hm8 : (p : Int) % 8 = (r : Int) := by rw [hr.out]; omega
      have hqn : q < l.length := by rw [hq.out]; omega
      have hqn' : (q : Int) < l.length := by omega
      have hqw : IntKind.i64.wrap (q : Int) = q := by rw [IntKind.wrap_i64]; omega
      have hmt : (p : Int).tmod 8 = (r : Int) := by rw [Int.tmod_eq_emod_of_nonneg (by omega)]; exact hm8
      have hr8 : r < 8 := by rw [hr.out]; omega
      obtain ⟨bb, oo, rfl, hc⟩ := HRb.out.at' hqn
      obtain ⟨z, hz⟩ : ∃ z, l.getD q 0 = z := ⟨_, rfl⟩
      have ha := bt_and l Hb.out p q r hq.out hr.out z hz
      have hno : Keep (btB l p = false → hasB s l x = false) := ⟨fun h => hasB_no hlk (by rw [hp, Int.toNat_natCast]; exact h)⟩
      have hyes : Keep (btB l p = true → ∀ i, i < k + 1 → btB l (plc s x l.length i).toNat = true) := ⟨fun h i hi => by
        by_cases hik : i = k
        · subst hik; rw [hp, Int.toNat_natCast]; exact h
        · exact hall i (by omega)⟩
      rw [hz] at hc
      rw [hp] at hix
      clear hp hpr hz hall
      obtain ⟨y, hy⟩ : ∃ y, z / 2 ^ r = y := ⟨_, rfl⟩
      rw [hy] at ha
      have ha0 := ha.1
      have ha1 := ha.2
      clear ha
      cases hbt : btB l p
      · rw [hbt] at ha1 hno
        have HN := Keep.mk (hno.out rfl)
        clear hyes hno hbt
        have ha2 : bits .and .u8 y 1 = 0 := by simpa using ha1
        clear ha1
        go_wp2
        go_ret2
        exact ⟨by rw [HN.out]; rfl, HBb.out⟩
      · rw [hbt] at ha1 hyes
        have HY := Keep.mk (hyes.out rfl)
        clear hyes hno hbt
        have ha2 : bits .and .u8 y 1 ≠ 0 := by simpa using ha1
        clear ha1
        go_wp2
        refine ⟨⟨k + 1, by omega, by go_num, HY.out⟩, by simp only [intOf]; omega⟩
    · obtain rfl : k = 4 := by omega
      rw [show ((4 : Nat) : Int) = 4 from rfl]
      have HY := Keep.mk (hasB_yes hall)
      clear hall
      go_wp2
      go_ret2
      exact ⟨by rw [HY.out]; rfl, HBb.out⟩

set_option maxRecDepth 8000 in
set_option maxHeartbeats 4000000 in
theorem rhas_any (s : Int) (v : Value) (l : List Int) (x : Hs) (w : World) (hs : 0 ≤ s ∧ s < 18446744073709551616) (hr : RowAt w v l) (hb : Byts l) :
    Calls Try.prog 23 #[.int .u64 s, v, .agg (bytesA 32 x.f)] w (HasPost s l x w) := by
  unfold HasPost
  obtain ⟨ch, Hch⟩ : ∃ ch, Keep (ch = bytesA 32 x.f) := ⟨_, ⟨rfl⟩⟩
  have HIch : Keep ((Try.prog.info? 27).map (·.size) = some ch.size) := ⟨by rw [Hch.out]; exact Try.size27B _⟩
  have HOch : Keep (ch.all (·.oneCell') = true) := ⟨by rw [Hch.out]; exact bytesA_one _ _⟩
  rw [← Hch.out]
  obtain ⟨a, c, rfl⟩ := row_form hr
  have HRa := Keep.mk (hr.below (below_new w (.cells ch 27)))
  have HB := Keep.mk (below_new w (.cells ch 27))
  have H5 := Keep.mk (Blk.new w 27 ch)
  obtain ⟨g5, hg5⟩ : ∃ g, Keep (g = w.heap.size) := ⟨_, ⟨rfl⟩⟩
  have HRT : Keep (∀ w, Calls Try.prog 29 #[.int .i64 (l.length : Int)] w fun e w' => e = .returned (.bool (isP l.length)) ∧ w' = w) := ⟨power_any _⟩
  have HN : Keep (isP l.length = true → (8 : Int) ≤ (l.length : Int) ∧ (l.length : Int) ≤ 8192) := ⟨isP_rng⟩
  have HPL : Keep (isP l.length = true → plL s x l.length = plcL s x l.length) := ⟨fun h => by rw [plL, if_pos h]⟩
  have Hs := Keep.mk hs
  have Hb := Keep.mk hb
  clear hs hr hb
  obtain ⟨b, hbb⟩ : ∃ b, b = isP l.length := ⟨_, rfl⟩
  rw [← hbb] at HRT HN HPL ⊢
  clear hbb
  cases b
  · go_enter Try.func23, Try.ntmps23
    go_wp2_with (first | (refine wpList_boxA rfl 27 (.tmp 2) rfl ch rfl ?_; refine Hid.out ?_))
    refine hid_in ?_
    rw [← hg5.out]
    generalize w.alloc (.cells ch 27) = wa at *
    go_wp2_with fail
    refine (HRT.out _).mono ?_
    rintro e w' ⟨rfl, rfl⟩
    go_wp2
    go_ret2
    exact ⟨rfl, HB.out⟩
  have HNN := Keep.mk (HN.out rfl)
  have HC : Keep (∀ w, Calls Try.prog 12 #[.int .u64 s, .agg ch, .int .i64 (l.length : Int)] w fun e w' => ∃ v, e = .returned v ∧ NewJ w v (plcL s x l.length) w') := ⟨fun w => by
    rw [Hch.out, ← HPL.out rfl]
    exact rPlaces_any s x l.length w Hs.out⟩
  clear HN HPL
  go_enter Try.func23, Try.ntmps23
  go_wp2_with (first | (refine wpList_boxA rfl 27 (.tmp 2) rfl ch rfl ?_; refine Hid.out ?_))
  refine hid_in ?_
  rw [← hg5.out] at H5 ⊢
  generalize w.alloc (.cells ch 27) = wa at *
  go_wp2_with fail
  refine (HRT.out _).mono ?_
  rintro e w' ⟨rfl, rfl⟩
  clear HRT
  go_wp2_with (first | (refine wpList_load_row rfl 27 (.tmp 5) rfl g5 rfl 27 ch (0, 0) (.array 32 5) H5.out Try.underlying27 rfl HIch.out ?_))
  refine (HC.out _).mono ?_
  rintro e wb ⟨vp, rfl, hJ⟩
  obtain ⟨pa, pc, rfl⟩ := hJ.1.sl
  have HJ := Keep.mk hJ.1
  have HBb := Keep.mk (HB.out.trans (hJ.2.2.mono HB.out.size))
  have HRb := Keep.mk (HRa.out.below hJ.2.2)
  rw [plcL_len] at HJ ⊢
  clear hJ HB HRa HC H5
  go_wp2_with fail
  go_loop [10] (fun i => ∃ k : Nat, k ≤ 4 ∧ i = .int .i64 k ∧ ∀ i, i < k → btB l (plc s x l.length i).toNat = true) (fun i => 4 - (intOf i).toNat)
  case atStart => exact ⟨0, by omega, rfl, fun i hi => by omega⟩
  case round =>
    obtain ⟨k, hk, rfl, hall⟩ := hrel
    by_cases hlk : k < 4
    · have hlk' : (k : Int) < 4 := by omega
      have hn := HNN.out
      have hpr := plc_rng s x l.length hn.1 k
      obtain ⟨p, hp⟩ : ∃ p : Nat, plc s x l.length k = (p : Int) := ⟨(plc s x l.length k).toNat, by omega⟩
      obtain ⟨gp, rfl, hc, -, -⟩ := HJ.out.at (i := k) (by rw [plcL_len]; exact hlk)
      rw [plcL_get _ _ _ _ hlk, hp] at hc
      have HBT := Keep.mk (bit_any _ l wb HRb.out Hb.out p (by omega) (by omega))
      have hno : Keep (btB l p = false → hasB s l x = false) := ⟨fun h => hasB_no hlk (by rw [hp, Int.toNat_natCast]; exact h)⟩
      have hyes : Keep (btB l p = true → ∀ i, i < k + 1 → btB l (plc s x l.length i).toNat = true) := ⟨fun h i hi => by
        by_cases hik : i = k
        · subst hik; rw [hp, Int.toNat_natCast]; exact h
        · exact hall i (by omega)⟩
      clear hp hpr hall
      obtain ⟨bq, hbq⟩ : ∃ bq, bq = btB l p := ⟨_, rfl⟩
      rw [← hbq] at HBT hno hyes
      clear hbq
      cases bq
      · have HN := Keep.mk (hno.out rfl)
        clear hyes hno
        go_wp2_with (go_at_call 34; refine HBT.out.mono ?_; rintro e w' ⟨rfl, rfl⟩)
        go_ret2
        exact ⟨by rw [HN.out]; rfl, HBb.out⟩
      · have HY := Keep.mk (hyes.out rfl)
        clear hyes hno
        go_wp2_with (go_at_call 34; refine HBT.out.mono ?_; rintro e w' ⟨rfl, rfl⟩)
        refine ⟨⟨k + 1, by omega, by go_num, HY.out⟩, by simp only [intOf]; omega⟩
    · obtain rfl : k = 4 := by omega
      rw [show ((4 : Nat) : Int) = 4 from rfl]
      have HY := Keep.mk (hasB_yes hall)
      clear hall
      go_wp2
      go_ret2
      exact ⟨by rw [HY.out]; rfl, HBb.out⟩

end Go.Proofs.Ytfheinghkigocaa
namespace Go.Proofs.Ytfheinghkigocaa
open Go.RowKit
set_option linter.unusedSimpArgs false
set_option linter.unusedVariables false

theorem Try.bs35 (c : Int) (w : World) : (Instr.buildSlice 35 1 #[(0, .int .u8 c)]).run Try.prog w = .ok (.slice (some ⟨w.heap.size, 0, none⟩) 1 1) (w.alloc (.cells #[.int .u8 c] 5)) := by kernel_rfl
/-- What is in one of two, or both. -/
def orL (l m : List Int) : List Int := hl l.length fun i => bits .or .u8 (l.getD i 0) (m.getD i 0)
theorem orL_len (l m : List Int) : (orL l m).length = l.length := hl_len _ _
def okJ (l m : List Int) : Bool := isP l.length && (l.length == m.length)
def joinL (l m : List Int) : List Int := if okJ l m = true then orL l m else []
theorem hl_set (n : Nat) (f : Nat → Int) (t : Nat) (c : Int) : (hl n f).set t c = hl n (upd f t c) := by
  apply List.ext_getElem?
  intro i
  rw [List.getElem?_set]
  by_cases h : t = i
  · subst h
    by_cases hi : t < n <;> simp [hl, upd, hi]
  · by_cases hi : i < n <;> simp [hl, upd, hi, h, Ne.symm h]
theorem hl_congr {n : Nat} {f g : Nat → Int} (h : ∀ i, i < n → f i = g i) : hl n f = hl n g := by
  unfold hl
  exact List.map_congr_left fun i hi => h i (List.mem_range.1 hi)
theorem hl_zeros (n : Nat) (f : Nat → Int) (h : ∀ i, f i = 0) : List.replicate n 0 = hl n f := by
  apply List.ext_getElem?
  intro i
  by_cases hi : i < n <;> simp [hl, hi, h]
def NewB (w : World) (v : Value) (l : List Int) (w' : World) : Prop := Own w' v l ∧ (∀ k, v.ownBlock = some k → w.heap.size ≤ k) ∧ Below w.heap.size w w'
theorem FreshB.new {w w' : World} {v : Value} {l : List Int} (h : FreshB w v l w') : NewB w v l w' := ⟨h.1, fun k hk => by
  obtain ⟨k', h1, h2⟩ := h.2.1
  rw [h1] at hk
  injection hk with hk
  omega, h.2.2⟩
def JoinPost (l m : List Int) (w : World) (e : Ending) (w' : World) : Prop :=
  ∃ v', e = .returned (.tuple #[v', .int .i64 (if okJ l m = true then 0 else 60)]) ∧ NewB w v' (joinL l m) w'

set_option maxRecDepth 8000 in
set_option maxHeartbeats 4000000 in
theorem join_any (va vb : Value) (l m : List Int) (w : World) (ha : RowAt w va l) (hb : RowAt w vb m) (hm : m.length ≤ 140737488355328) :
    Calls Try.prog 28 #[va, vb] w (JoinPost l m w) := by
  unfold JoinPost
  have HRa := Keep.mk ha
  have HRb := Keep.mk hb
  obtain ⟨aa, ac, rfl⟩ := row_form ha
  obtain ⟨ba, bc, rfl⟩ := row_form hb
  have HN : Keep (isP l.length = true → (8 : Int) ≤ (l.length : Int) ∧ (l.length : Int) ≤ 8192) := ⟨isP_rng⟩
  have HOK : Keep (okJ l m = (isP l.length && (l.length == m.length))) := ⟨rfl⟩
  have HJL : Keep (joinL l m = if okJ l m = true then orL l m else []) := ⟨rfl⟩
  have HRT := Keep.mk (right_any _ l w ha)
  clear ha hb
  obtain ⟨b, hbb⟩ : ∃ b, b = isP l.length := ⟨_, rfl⟩
  rw [← hbb] at HRT HN HOK
  clear hbb
  cases b
  · have hok : okJ l m = false := by rw [HOK.out]; simp
    rw [hok] at HJL ⊢
    clear hok HOK
    go_enter Try.func28, Try.ntmps28
    go_wp2_with (go_at_call 20; refine HRT.out.mono ?_; rintro e w' ⟨rfl, rfl⟩)
    go_ret2
    exact ⟨_, rfl, by rw [HJL.out]; exact own_nil _, fun k hk => by simp [Value.ownBlock] at hk, Below.refl _ _⟩
  have HNN := Keep.mk (HN.out rfl)
  clear HN
  by_cases hlm : l.length = m.length
  · have hok : okJ l m = true := by rw [HOK.out, hlm]; simp
    rw [hok] at HJL ⊢
    clear hok HOK
    rw [if_pos rfl] at HJL
    rw [← hlm] at HRb hm ⊢
    have HLM := Keep.mk hlm
    clear hlm
    have hn := HNN.out
    have hmk := run_makeB l.length l.length (Nat.le_refl _) (by omega) w
    have HB := Keep.mk (below_new w (.cells (bytesA l.length fun _ => 0) 5))
    have HO := Keep.mk (own_zeros (Blk.new w 5 (bytesA l.length fun _ => 0)) (by omega))
    go_enter Try.func28, Try.ntmps28
    go_wp2_with (go_at_call 20; refine HRT.out.mono ?_; rintro e w' ⟨rfl, rfl⟩)
    clear HRT hmk
    obtain ⟨gb, hgb⟩ : ∃ g, Keep (g = w'.heap.size) := ⟨_, ⟨rfl⟩⟩
    rw [← hgb.out] at HO ⊢
    have hgeb : w'.heap.size ≤ gb := by rw [hgb.out]; exact Nat.le_refl _
    generalize w'.alloc (.cells (bytesA l.length fun _ => 0) 5) = wa at *
    obtain ⟨f, hf⟩ : ∃ f : Nat → Int, Keep (f = fun i => bits .or .u8 (l.getD i 0) (m.getD i 0)) := ⟨_, ⟨rfl⟩⟩
    go_loopw [23] (fun i wr => ∃ t : Nat, t ≤ l.length ∧ i = .int .i64 t ∧ Own wr (.slice (some ⟨gb, 0, none⟩) l.length l.length) (hl l.length fun i => if i < t then f i else 0) ∧ Below w'.heap.size w' wr) (fun i _ => l.length - (intOf i).toNat)
    case atStart => exact ⟨0, by omega, rfl, (hl_zeros l.length (fun i => if i < 0 then f i else 0) fun i => by simp) ▸ HO.out, HB.out⟩
    case round =>
      clear HO HB
      obtain ⟨t, ht, rfl, hO, hB⟩ := hrel
      by_cases hlt : t < l.length
      · have hlt' : (t : Int) < l.length := by omega
        obtain ⟨b1, o1, rfl, ca0⟩ := HRa.out.at' hlt
        obtain ⟨b2, o2, rfl, cb0⟩ := HRb.out.at' (i := t) (by rw [← HLM.out]; exact hlt)
        have hl1 := cell_lt ca0
        have hl2 := cell_lt cb0
        have ca : wr.drew.cell? ⟨b1, o1 + t, none⟩ = some (.int .u8 (l.getD t 0)) := by rw [hB.drew.cell (p := ⟨b1, o1 + t, none⟩) hl1]; exact ca0
        have cb : wr.drew.cell? ⟨b2, o2 + t, none⟩ = some (.int .u8 (m.getD t 0)) := by rw [hB.drew.cell (p := ⟨b2, o2 + t, none⟩) hl2]; exact cb0
        have hft : f t = bits .or .u8 (l.getD t 0) (m.getD t 0) := by rw [hf.out]
        have hoc := hO.cells t (by rw [hl_len]; exact hlt)
        obtain ⟨z0, hz0⟩ : ∃ z0, (hl l.length fun i => if i < t then f i else 0).getD t 0 = z0 := ⟨_, rfl⟩
        rw [hz0] at hoc
        have co : wr.drew.cell? ⟨gb, t, none⟩ = some (.int .u8 z0) := hoc.1
        have ff : wr.drew.frozen? ⟨gb, t, none⟩ = false := hoc.2
        have HOn := Keep.mk ((show Own wr.drew _ _ from hO).set t (bits .or .u8 (l.getD t 0) (m.getD t 0)))
        rw [hl_set, show (hl l.length (upd (fun i => if i < t then f i else 0) t (bits .or .u8 (l.getD t 0) (m.getD t 0)))) = hl l.length fun i => if i < t + 1 then f i else 0 from hl_congr fun i hi => by
          unfold upd
          by_cases h : i = t
          · subst h; simp [hft]
          · simp only [if_neg h]
            by_cases h2 : i < t
            · rw [if_pos h2, if_pos (by omega)]
            · rw [if_neg h2, if_neg (by omega)]] at HOn
        have HBn := Keep.mk ((hB.drew).setCell hgeb (p := ⟨gb, t, none⟩) (.int .u8 (bits .or .u8 (l.getD t 0) (m.getD t 0))))
        have HSa : Keep ((wr.drew.setCell ⟨gb, t, none⟩ (.int .u8 (bits .or .u8 (l.getD t 0) (m.getD t 0)))).cell? ⟨b1, o1 + t, none⟩ = some (.int .u8 (l.getD t 0))) := ⟨by rw [HBn.out.cell (p := ⟨b1, o1 + t, none⟩) hl1]; exact ca0⟩
        have HSb : Keep ((wr.drew.setCell ⟨gb, t, none⟩ (.int .u8 (bits .or .u8 (l.getD t 0) (m.getD t 0)))).cell? ⟨b2, o2 + t, none⟩ = some (.int .u8 (m.getD t 0))) := ⟨by rw [HBn.out.cell (p := ⟨b2, o2 + t, none⟩) hl2]; exact cb0⟩
        clear hO hB hft hoc hz0 ca0 cb0 hl1 hl2
        generalize l.getD t 0 = za at *
        generalize m.getD t 0 = zb at *
        go_wp2_with fail
        refine wp_region_held_drew (S := fun wx => wx.cell? ⟨b1, o1 + t, none⟩ = some (.int .u8 za) ∧ wx.cell? ⟨b2, o2 + t, none⟩ = some (.int .u8 zb)) (by kernel_rfl) ⟨ca, cb⟩ (fun hHeld => ?_)
        generalize wr.drew = wd at *
        refine wpAnyH_take (i := 0) (oi := ⟨some 26, Op.move (Operand.tmp 6), 35, _, _, none⟩) (v := .slice (some ⟨gb, 0, none⟩) l.length l.length) rfl (by kernel_rfl) (by kernel_rfl) (by kernel_rfl) (fun _ _ _ h => h) (Or.inl ⟨by rfl, fun w hS => by go_simp⟩) hHeld ?_
        simp only [Act.put, List.setIfInBounds_toArray, List.set_cons_zero, List.set_cons_succ]
        refine wpAnyH_take (i := 1) (oi := ⟨some 27, Op.move (Operand.tmp 7), 3, _, _, none⟩) (v := .int .i64 (t : Int)) rfl (by kernel_rfl) (by kernel_rfl) (by kernel_rfl) (fun _ _ _ h => h) (Or.inl ⟨by rfl, fun w hS => by go_simp⟩) hHeld ?_
        simp only [Act.put, List.setIfInBounds_toArray, List.set_cons_zero, List.set_cons_succ]
        refine wpAnyH_take (i := 2) (oi := ⟨some 28, Op.move (Operand.tmp 0), 35, _, _, none⟩) (v := .slice (some ⟨b1, o1, none⟩) l.length ac) rfl (by kernel_rfl) (by kernel_rfl) (by kernel_rfl) (fun _ _ _ h => h) (Or.inl ⟨by rfl, fun w hS => by go_simp⟩) hHeld ?_
        simp only [Act.put, List.setIfInBounds_toArray, List.set_cons_zero, List.set_cons_succ]
        refine wpAnyH_take (i := 3) (oi := ⟨some 29, Op.move (Operand.tmp 7), 3, _, _, none⟩) (v := .int .i64 (t : Int)) rfl (by kernel_rfl) (by kernel_rfl) (by kernel_rfl) (fun _ _ _ h => h) (Or.inl ⟨by rfl, fun w hS => by go_simp⟩) hHeld ?_
        simp only [Act.put, List.setIfInBounds_toArray, List.set_cons_zero, List.set_cons_succ]
        refine wpAnyH_take (i := 4) (oi := ⟨some 30, Op.indexAddr 35 (Operand.tmp 28) (Operand.tmp 29), 0, _, _, none⟩) (v := .pointer (some ⟨b1, o1 + t, none⟩)) rfl (by kernel_rfl) (by kernel_rfl) (by kernel_rfl) (fun _ _ _ h => h) (Or.inl ⟨by rfl, fun w hS => by go_simp⟩) hHeld ?_
        simp only [Act.put, List.setIfInBounds_toArray, List.set_cons_zero, List.set_cons_succ]
        refine wpAnyH_take (i := 5) (oi := ⟨some 31, Op.load 5 (Operand.tmp 30), 5, _, _, none⟩) (v := .int .u8 za) rfl (by kernel_rfl) (by kernel_rfl) (by kernel_rfl) (fun _ _ _ h => h) (Or.inl ⟨by rfl, fun w hS => by have h1 := hS.1; go_simp⟩) hHeld ?_
        simp only [Act.put, List.setIfInBounds_toArray, List.set_cons_zero, List.set_cons_succ]
        refine wpAnyH_take (i := 6) (oi := ⟨some 32, Op.move (Operand.tmp 1), 35, _, _, none⟩) (v := .slice (some ⟨b2, o2, none⟩) l.length bc) rfl (by kernel_rfl) (by kernel_rfl) (by kernel_rfl) (fun _ _ _ h => h) (Or.inl ⟨by rfl, fun w hS => by go_simp⟩) hHeld ?_
        simp only [Act.put, List.setIfInBounds_toArray, List.set_cons_zero, List.set_cons_succ]
        refine wpAnyH_take (i := 7) (oi := ⟨some 33, Op.move (Operand.tmp 7), 3, _, _, none⟩) (v := .int .i64 (t : Int)) rfl (by kernel_rfl) (by kernel_rfl) (by kernel_rfl) (fun _ _ _ h => h) (Or.inl ⟨by rfl, fun w hS => by go_simp⟩) hHeld ?_
        simp only [Act.put, List.setIfInBounds_toArray, List.set_cons_zero, List.set_cons_succ]
        refine wpAnyH_take (i := 8) (oi := ⟨some 34, Op.indexAddr 35 (Operand.tmp 32) (Operand.tmp 33), 0, _, _, none⟩) (v := .pointer (some ⟨b2, o2 + t, none⟩)) rfl (by kernel_rfl) (by kernel_rfl) (by kernel_rfl) (fun _ _ _ h => h) (Or.inl ⟨by rfl, fun w hS => by go_simp⟩) hHeld ?_
        simp only [Act.put, List.setIfInBounds_toArray, List.set_cons_zero, List.set_cons_succ]
        refine wpAnyH_take (i := 9) (oi := ⟨some 35, Op.load 5 (Operand.tmp 34), 5, _, _, none⟩) (v := .int .u8 zb) rfl (by kernel_rfl) (by kernel_rfl) (by kernel_rfl) (fun _ _ _ h => h) (Or.inl ⟨by rfl, fun w hS => by have h1 := hS.2; go_simp⟩) hHeld ?_
        simp only [Act.put, List.setIfInBounds_toArray, List.set_cons_zero, List.set_cons_succ]
        refine wpAnyH_take (i := 10) (oi := ⟨some 36, Op.binOp BinOp.or 5 (Operand.tmp 31) (Operand.tmp 35) 5, 5, _, _, none⟩) (v := .int .u8 (bits .or .u8 za zb)) rfl (by kernel_rfl) (by kernel_rfl) (by kernel_rfl) (fun _ _ _ h => h) (Or.inl ⟨by rfl, fun w hS => by go_simp⟩) hHeld ?_
        simp only [Act.put, List.setIfInBounds_toArray, List.set_cons_zero, List.set_cons_succ]
        refine wpAnyH_take (i := 11) (oi := ⟨some 37, Op.indexAddr 35 (Operand.tmp 26) (Operand.tmp 27), 0, _, _, none⟩) (v := .pointer (some ⟨gb, t, none⟩)) rfl (by kernel_rfl) (by kernel_rfl) (by kernel_rfl) (fun _ _ _ h => h) (Or.inl ⟨by rfl, fun w hS => by go_simp⟩) hHeld ?_
        simp only [Act.put, List.setIfInBounds_toArray, List.set_cons_zero, List.set_cons_succ]
        refine wpAnyH_ready (rs := [12]) (by kernel_rfl) (by simp) ?_
        refine AllReadyH.cons (o := ⟨none, Op.store 5 (Operand.tmp 37) (Operand.tmp 36), 0, _, _, none⟩) rfl (fun K hK => ?_) (AllReadyH.nil)
        all_goals rw [if_pos (by rfl)]
        go_simp
        refine hK.out _ _ ⟨HSa.out, HSb.out⟩ fun _ => ?_
        clear hK
        refine wpAnyH_done (by kernel_rfl) ?_ _
        generalize wd.setCell ⟨gb, t, none⟩ (.int .u8 (bits .or .u8 za zb)) = we at *
        clear ca cb co ff hHeld HSa HSb
        go_wp2
        go_roundw
        case rel => exact ⟨t + 1, by omega, by go_num, HOn.out, HBn.out⟩
        case measure => simp only [intOf]; omega
      · obtain rfl : t = l.length := by omega
        have HO := Keep.mk (show Own wr (.slice (some ⟨gb, 0, none⟩) l.length l.length) (orL l m) from (show (hl l.length fun i => if i < l.length then f i else 0) = orL l m from hl_congr fun i hi => by rw [if_pos hi, hf.out]) ▸ hO)
        have HB := Keep.mk hB
        clear hO hB
        go_wp2
        go_ret2
        exact ⟨_, rfl, by rw [HJL.out]; exact HO.out, fun k hk => by simp [Value.ownBlock] at hk; omega, HB.out⟩
  · have hok : okJ l m = false := by rw [HOK.out]; simp [hlm]
    rw [hok] at HJL ⊢
    clear hok HOK
    have hlm' : (l.length : Int) ≠ m.length := by omega
    go_enter Try.func28, Try.ntmps28
    go_wp2_with (go_at_call 20; refine HRT.out.mono ?_; rintro e w' ⟨rfl, rfl⟩)
    go_ret2
    exact ⟨_, rfl, by rw [HJL.out]; exact own_nil _, fun k hk => by simp [Value.ownBlock] at hk, Below.refl _ _⟩

set_option maxRecDepth 8000 in
set_option maxHeartbeats 4000000 in
theorem rjoin_any (va vb : Value) (l m : List Int) (w : World) (ha : RowAt w va l) (hb : RowAt w vb m) (hm : m.length ≤ 140737488355328) :
    Calls Try.prog 27 #[va, vb] w (JoinPost l m w) := by
  unfold JoinPost
  have HRa := Keep.mk ha
  have HRb := Keep.mk hb
  obtain ⟨aa, ac, rfl⟩ := row_form ha
  obtain ⟨ba, bc, rfl⟩ := row_form hb
  have HN : Keep (isP l.length = true → (8 : Int) ≤ (l.length : Int) ∧ (l.length : Int) ≤ 8192) := ⟨isP_rng⟩
  have HOK : Keep (okJ l m = (isP l.length && (l.length == m.length))) := ⟨rfl⟩
  have HJL : Keep (joinL l m = if okJ l m = true then orL l m else []) := ⟨rfl⟩
  have HRT := Keep.mk (power_any l.length w)
  clear ha hb
  obtain ⟨b, hbb⟩ : ∃ b, b = isP l.length := ⟨_, rfl⟩
  rw [← hbb] at HRT HN HOK
  clear hbb
  cases b
  · have hok : okJ l m = false := by rw [HOK.out]; simp
    rw [hok] at HJL ⊢
    clear hok HOK
    go_enter Try.func27, Try.ntmps27
    go_wp2_with (go_at_call 29; refine HRT.out.mono ?_; rintro e w' ⟨rfl, rfl⟩)
    go_ret2
    exact ⟨_, rfl, by rw [HJL.out]; exact own_nil _, fun k hk => by simp [Value.ownBlock] at hk, Below.refl _ _⟩
  have HNN := Keep.mk (HN.out rfl)
  clear HN
  by_cases hlm : l.length = m.length
  · have hok : okJ l m = true := by rw [HOK.out, hlm]; simp
    rw [hok] at HJL ⊢
    clear hok HOK
    rw [if_pos rfl] at HJL
    rw [← hlm] at HRb hm ⊢
    have HLM := Keep.mk hlm
    clear hlm
    have hn := HNN.out
    have HF := Keep.mk (FreshB.empty w)
    go_enter Try.func27, Try.ntmps27
    go_wp2_with (go_at_call 29; refine HRT.out.mono ?_; rintro e w' ⟨rfl, rfl⟩)
    clear HRT
    obtain ⟨w, rfl⟩ : ∃ w, w = w' := ⟨_, rfl⟩
    obtain ⟨f, hf⟩ : ∃ f : Nat → Int, Keep (f = fun i => bits .or .u8 (l.getD i 0) (m.getD i 0)) := ⟨_, ⟨rfl⟩⟩
    go_loopw [7, 8] (fun b i wr => ∃ (t : Nat) (v1 : Value), t ≤ l.length ∧ v1 = b ∧ i = .int .i64 t ∧ FreshB w v1 (hl t f) wr) (fun _ i _ => l.length - (intOf i).toNat)
    case atStart => exact ⟨0, _, by omega, rfl, rfl, HF.out⟩
    case round =>
      clear HF
      obtain ⟨t, v1, ht, rfl, rfl, hF⟩ := hrel
      by_cases hlt : t < l.length
      · have hlt' : (t : Int) < l.length := by omega
        obtain ⟨b1, o1, rfl, ca0⟩ := HRa.out.at' hlt
        obtain ⟨b2, o2, rfl, cb0⟩ := HRb.out.at' (i := t) (by rw [← HLM.out]; exact hlt)
        have HCa : Keep (∀ wx, Below w.heap.size w wx → wx.cell? ⟨b1, o1 + t, none⟩ = some (.int .u8 (l.getD t 0))) := ⟨fun wx hx => by rw [hx.cell (p := ⟨b1, o1 + t, none⟩) (cell_lt ca0)]; exact ca0⟩
        have HCb : Keep (∀ wx, Below w.heap.size w wx → wx.cell? ⟨b2, o2 + t, none⟩ = some (.int .u8 (m.getD t 0))) := ⟨fun wx hx => by rw [hx.cell (p := ⟨b2, o2 + t, none⟩) (cell_lt cb0)]; exact cb0⟩
        have HE : Keep (hl (t + 1) f = hl t f ++ [bits .or .u8 (l.getD t 0) (m.getD t 0)]) := ⟨by rw [hf.out]; simp [hl, List.range_succ]⟩
        clear ca0 cb0
        generalize l.getD t 0 = za at *
        generalize m.getD t 0 = zb at *
        go_wp2_with fail
        refine wp_region_held_drew (S := fun wx => Below w.heap.size w wx) (by kernel_rfl) (hF.2.2.drew) (fun hHeld => ?_)
        have HFd : Keep (FreshB w v1 (hl t f) wr.drew) := ⟨hF.later (Below.refl _ _).drew⟩
        clear hF
        generalize wr.drew = wd at *
        refine wpAnyH_take (i := 0) (oi := ⟨some 28, Op.move (Operand.tmp 7), 35, _, _, none⟩) (v := v1) rfl (by kernel_rfl) (by kernel_rfl) (by kernel_rfl) (fun _ _ _ h => h) (Or.inl ⟨by rfl, fun w hS => by go_simp⟩) hHeld ?_
        simp only [Act.put, List.setIfInBounds_toArray, List.set_cons_zero, List.set_cons_succ]
        refine wpAnyH_take (i := 1) (oi := ⟨some 29, Op.move (Operand.tmp 0), 35, _, _, none⟩) (v := .slice (some ⟨b1, o1, none⟩) l.length ac) rfl (by kernel_rfl) (by kernel_rfl) (by kernel_rfl) (fun _ _ _ h => h) (Or.inl ⟨by rfl, fun w hS => by go_simp⟩) hHeld ?_
        simp only [Act.put, List.setIfInBounds_toArray, List.set_cons_zero, List.set_cons_succ]
        refine wpAnyH_take (i := 2) (oi := ⟨some 30, Op.move (Operand.tmp 8), 3, _, _, none⟩) (v := .int .i64 (t : Int)) rfl (by kernel_rfl) (by kernel_rfl) (by kernel_rfl) (fun _ _ _ h => h) (Or.inl ⟨by rfl, fun w hS => by go_simp⟩) hHeld ?_
        simp only [Act.put, List.setIfInBounds_toArray, List.set_cons_zero, List.set_cons_succ]
        refine wpAnyH_take (i := 3) (oi := ⟨some 31, Op.indexAddr 35 (Operand.tmp 29) (Operand.tmp 30), 0, _, _, none⟩) (v := .pointer (some ⟨b1, o1 + t, none⟩)) rfl (by kernel_rfl) (by kernel_rfl) (by kernel_rfl) (fun _ _ _ h => h) (Or.inl ⟨by rfl, fun w hS => by go_simp⟩) hHeld ?_
        simp only [Act.put, List.setIfInBounds_toArray, List.set_cons_zero, List.set_cons_succ]
        refine wpAnyH_take (i := 4) (oi := ⟨some 32, Op.load 5 (Operand.tmp 31), 5, _, _, none⟩) (v := .int .u8 za) rfl (by kernel_rfl) (by kernel_rfl) (by kernel_rfl) (fun _ _ _ h => h) (Or.inl ⟨by rfl, fun w hS => by have h1 := HCa.out _ hS; go_simp⟩) hHeld ?_
        simp only [Act.put, List.setIfInBounds_toArray, List.set_cons_zero, List.set_cons_succ]
        refine wpAnyH_take (i := 5) (oi := ⟨some 33, Op.move (Operand.tmp 1), 35, _, _, none⟩) (v := .slice (some ⟨b2, o2, none⟩) l.length bc) rfl (by kernel_rfl) (by kernel_rfl) (by kernel_rfl) (fun _ _ _ h => h) (Or.inl ⟨by rfl, fun w hS => by go_simp⟩) hHeld ?_
        simp only [Act.put, List.setIfInBounds_toArray, List.set_cons_zero, List.set_cons_succ]
        refine wpAnyH_take (i := 6) (oi := ⟨some 34, Op.move (Operand.tmp 8), 3, _, _, none⟩) (v := .int .i64 (t : Int)) rfl (by kernel_rfl) (by kernel_rfl) (by kernel_rfl) (fun _ _ _ h => h) (Or.inl ⟨by rfl, fun w hS => by go_simp⟩) hHeld ?_
        simp only [Act.put, List.setIfInBounds_toArray, List.set_cons_zero, List.set_cons_succ]
        refine wpAnyH_take (i := 7) (oi := ⟨some 35, Op.indexAddr 35 (Operand.tmp 33) (Operand.tmp 34), 0, _, _, none⟩) (v := .pointer (some ⟨b2, o2 + t, none⟩)) rfl (by kernel_rfl) (by kernel_rfl) (by kernel_rfl) (fun _ _ _ h => h) (Or.inl ⟨by rfl, fun w hS => by go_simp⟩) hHeld ?_
        simp only [Act.put, List.setIfInBounds_toArray, List.set_cons_zero, List.set_cons_succ]
        refine wpAnyH_take (i := 8) (oi := ⟨some 36, Op.load 5 (Operand.tmp 35), 5, _, _, none⟩) (v := .int .u8 zb) rfl (by kernel_rfl) (by kernel_rfl) (by kernel_rfl) (fun _ _ _ h => h) (Or.inl ⟨by rfl, fun w hS => by have h1 := HCb.out _ hS; go_simp⟩) hHeld ?_
        simp only [Act.put, List.setIfInBounds_toArray, List.set_cons_zero, List.set_cons_succ]
        refine wpAnyH_take (i := 9) (oi := ⟨some 37, Op.binOp BinOp.or 5 (Operand.tmp 32) (Operand.tmp 36) 5, 5, _, _, none⟩) (v := .int .u8 (bits .or .u8 za zb)) rfl (by kernel_rfl) (by kernel_rfl) (by kernel_rfl) (fun _ _ _ h => h) (Or.inl ⟨by rfl, fun w hS => by go_simp⟩) hHeld ?_
        simp only [Act.put, List.setIfInBounds_toArray, List.set_cons_zero, List.set_cons_succ]
        refine wpAnyH_ready (rs := [10]) (by kernel_rfl) (by simp) ?_
        refine AllReadyH.cons (o := ⟨some 38, Op.buildSlice 35 1 #[(0, Operand.tmp 37)], 35, _, _, none⟩) rfl (fun K hK => ?_) (AllReadyH.nil)
        all_goals rw [if_pos (by rfl)]
        refine wp_bs 35 1 _ rfl #[(0, .int .u8 (bits .or .u8 za zb))] (by simp [Act.eval]) _ _ (Try.bs35 (bits .or .u8 za zb) wd) ?_
        have HFe := Keep.mk (HFd.out.later (below_new wd (.cells #[.int .u8 (bits .or .u8 za zb)] 5)))
        have HR1 := Keep.mk (row_one wd (bits .or .u8 za zb))
        refine hK.out _ _ HFe.out.2.2 fun hHeld => ?_
        clear hK HFd
        simp only [Act.put, List.setIfInBounds_toArray, List.set_cons_zero, List.set_cons_succ]
        obtain ⟨g1, hg1⟩ : ∃ g, Keep (g = wd.heap.size) := ⟨_, ⟨rfl⟩⟩
        rw [← hg1.out] at HR1 ⊢
        generalize wd.alloc (.cells #[.int .u8 (bits .or .u8 za zb)] 5) = we at *
        refine wpAnyH_ready (rs := [11]) (by kernel_rfl) (by simp) ?_
        refine AllReadyH.cons (o := ⟨some 39, Op.call { callee := Callee.builtin Builtin.append, args := #[Operand.tmp 28, Operand.tmp 38], argTypes := #[35, 35] }, 35, _, _, none⟩) rfl (fun K hK => ?_) (AllReadyH.nil)
        all_goals rw [if_pos (by rfl)]
        refine wp_app (.tmp 28) (.tmp 38) rfl v1 (.slice (some ⟨g1, 0, none⟩) 1 1) (hl t f) [bits .or .u8 za zb] rfl rfl HFe.out.1 HR1.out (by rw [hl_len]; simp; omega) ?_
        intro v' w' hp
        have HP := Keep.mk (HFe.out.app hp)
        refine hK.out _ _ HP.out.2.2 fun hHeld => ?_
        clear hK hp HFe HR1
        simp only [Act.put, List.setIfInBounds_toArray, List.set_cons_zero, List.set_cons_succ]
        refine wpAnyH_take (i := 12) (oi := ⟨some 7, Op.assign (Operand.tmp 39), 35, _, _, none⟩) (v := v') rfl (by kernel_rfl) (by kernel_rfl) (by kernel_rfl) (fun _ _ _ h => h) (Or.inl ⟨by rfl, fun w hS => by go_simp⟩) hHeld ?_
        simp only [Act.put, List.setIfInBounds_toArray, List.set_cons_zero, List.set_cons_succ]
        refine wpAnyH_done (by kernel_rfl) ?_ _
        go_wp2
        go_roundw
        case rel => exact ⟨t + 1, _, by omega, rfl, by go_num, by rw [HE.out]; exact HP.out⟩
        case measure => simp only [intOf]; omega
      · obtain rfl : t = l.length := by omega
        have HO : Keep (FreshB w v1 (orL l m) wr) := ⟨by unfold orL; rw [← hf.out]; exact hF⟩
        clear hF
        go_wp2
        go_ret2
        exact ⟨_, rfl, by rw [HJL.out]; exact HO.out.new⟩
  · have hok : okJ l m = false := by rw [HOK.out]; simp [hlm]
    rw [hok] at HJL ⊢
    clear hok HOK
    have hlm' : (l.length : Int) ≠ m.length := by omega
    go_enter Try.func27, Try.ntmps27
    go_wp2_with (go_at_call 29; refine HRT.out.mono ?_; rintro e w' ⟨rfl, rfl⟩)
    go_ret2
    exact ⟨_, rfl, by rw [HJL.out]; exact own_nil _, fun k hk => by simp [Value.ownBlock] at hk, Below.refl _ _⟩

set_option maxHeartbeats 1000000 in
theorem fixed_any (w : World) : Calls Try.prog 9 #[] w fun e w' => e = .returned (.bool true) ∧ Below w.heap.size w w' := by
  have HS : Keep (∀ w, Calls Try.prog 10 #[.int .i64 7] w fun e w' => e = .returned (.int .i64 16) ∧ w' = w) := ⟨fun w => by
    have := size_any 7 w
    rw [show (szN 7 : Int) = 16 from rfl] at this
    exact this⟩
  have HO := Keep.mk (Of_any 0 [] (.slice none 0 0) w (by omega) (.inl ⟨none, 0, rfl, rfl, fun _ => rfl⟩) (by simp))
  have HL : Keep ((digL 0 []).length = 8) := ⟨by rw [digL_len]; rfl⟩
  have HP : Keep (isP ((8 : Nat) : Int) = true) := ⟨by decide⟩
  go_enter Try.func9, Try.ntmps9
  go_wp2_with (first | (go_at_call 10; refine (HS.out _).mono ?_; rintro e w' ⟨rfl, rfl⟩))
  refine HO.out.mono ?_
  rintro e w2 ⟨v, rfl, hF⟩
  obtain ⟨a, c, rfl⟩ := row_form hF.1.row
  have HR := Keep.mk (right_any _ _ w2 hF.1.row)
  have HB := Keep.mk hF.2.2
  rw [HL.out, HP.out] at HR
  rw [HL.out]
  clear hF
  go_wp2_with (first | (go_at_call 20; refine HR.out.mono ?_; rintro e w' ⟨rfl, rfl⟩))
  go_ret
  exact ⟨rfl, HB.out⟩

end Go.Proofs.Ytfheinghkigocaa
namespace Go.Proofs.Ytfheinghkigocaa
open Go.RowKit

theorem row_head {w : World} {v g1 : Value} {n k : Nat} {m : Int} {va : Option Addr} {vc : Nat} (hv : v = .slice va n vc) (h0 : ∀ a, va = some a → a.off = 0 ∧ a.spot = none) (hnv : va = none → n = 0 ∧ vc = 0) (hle : n ≤ vc) (h : OwnT w g1 (List.replicate (n + k) m)) (he : g1.ownBlock = v.ownBlock) : RowAt w v (List.replicate n m) := by
  subst hv
  cases va with
  | none => obtain ⟨rfl, rfl⟩ := hnv rfl; exact .inl ⟨rfl, rfl⟩
  | some a =>
    obtain ⟨h1, h2⟩ := h0 a rfl
    obtain ⟨b, o, sp⟩ := a
    simp only at h1 h2
    subst h1 h2
    refine .inr (.inr ⟨b, 0, vc, by simp, by simpa using hle, fun i hi => ?_⟩)
    simp only [List.length_replicate] at hi
    have h5 := h
    rcases h5 with ⟨e, e2⟩ | ⟨g', cap', cur, fz, e, hb, _⟩
    · have := congrArg List.length e2; simp at this; omega
    · rw [e] at he h
      simp [Value.ownBlock] at he
      subst he
      have := (h.cells i (by simp; omega)).1
      rw [Nat.zero_add, this]
      simp [List.getD_eq_getElem?_getD, hi, show i < n + k by omega]

structure G2 (wL : World) (vb g : Value) (n t : Nat) (m : Int) (w : World) : Prop where
  own : OwnT w g (List.replicate (n + t) m)
  row : RowAt w vb (List.replicate n m)
  typ : ∀ k, vb.ownBlock = some k → Typ w k 5
  pos : g.ownBlock = vb.ownBlock ∨ ∃ k, g.ownBlock = some k ∧ wL.heap.size ≤ k
  gr : Grown wL w fun k => vb.ownBlock = some k
theorem G2.next {wL wx w' : World} {vb g v' : Value} {n t : Nat} {m : Int} {va : Option Addr} {vc : Nat} {l0 : List Int} (h : G2 wL vb g n t m wx) (hv : vb = .slice va n vc) (hO : OwnT wL vb l0) (o : Obj) (hp : AppPostT (wx.alloc o) g (List.replicate (n + t) m ++ [m]) v' w') : G2 wL vb v' n (t + 1) m w' := by
  have hO' := hO
  rw [hv] at hO'
  obtain ⟨p1, p2, p3, _⟩ := hO'.plain
  have hown : OwnT w' v' (List.replicate (n + (t + 1)) m) := by
    have e : List.replicate (n + (t + 1)) m = List.replicate (n + t) m ++ [m] := by rw [← Nat.add_assoc, List.replicate_succ']
    rw [e]; exact hp.1
  have hgL : Grown wL (wx.alloc o) fun k => vb.ownBlock = some k := h.gr.next (Grown.alloc wx o fun _ => False) fun _ _ h => h.elim
  have hrow : RowAt (wx.alloc o) vb (List.replicate n m) := h.row.below (below_new wx o)
  have hgr : Grown wL w' fun k => vb.ownBlock = some k := hgL.next hp.grown fun i hi e => by
    rcases h.pos with h1 | ⟨k, h1, h2⟩
    · rw [← h1]; exact e
    · rw [h1] at e; injection e with e; omega
  have htyp : ∀ k, vb.ownBlock = some k → Typ (wx.alloc o) k 5 := fun k hk => (Grown.alloc wx o fun _ => False).typ (h.typ k hk) fun h => h
  rcases hp.2 with ⟨e1, g1⟩ | ⟨e1, g1⟩
  · by_cases hs : g.ownBlock = vb.ownBlock
    · exact ⟨hown, row_head hv p1 p2 p3 hown (e1.trans hs), fun k hk => hown.typ ((e1.trans hs).trans hk), .inl (e1.trans hs), hgr⟩
    · refine ⟨hown, hrow.grown g1 fun b hb _ e => hs (e.trans hb.symm), fun k hk => g1.typ (htyp k hk) fun e => hs (e.trans hk.symm), ?_, hgr⟩
      rcases h.pos with h1 | h1
      · exact absurd h1 hs
      · rw [e1]; exact .inr h1
  · exact ⟨hown, hrow.below g1, fun k hk => (Grown.below (S := fun _ => False) g1).typ (htyp k hk) fun h => h, .inr ⟨_, e1, hgL.size⟩, hgr⟩

theorem fill_next (l : List Int) (t : Nat) (m : Int) (h : t < l.length) : (List.replicate t m ++ l.drop t).set t m = List.replicate (t + 1) m ++ l.drop (t + 1) := by
  apply List.ext_getElem?
  intro i
  rw [List.getElem?_set]
  simp only [List.getElem?_append, List.length_append, List.length_replicate, List.length_drop, List.getElem?_replicate, List.getElem?_drop]
  by_cases h1 : t = i
  · subst h1
    rw [if_pos rfl, if_pos (by omega), if_pos (by omega), if_pos (by omega)]
  · rw [if_neg h1]
    by_cases h2 : i < t
    · rw [if_pos h2, if_pos h2, if_pos (by omega), if_pos (by omega)]
    · rw [if_neg h2, if_neg (by omega), show t + (i - t) = t + 1 + (i - (t + 1)) by omega]

end Go.Proofs.Ytfheinghkigocaa
namespace Go.Proofs.Ytfheinghkigocaa
open Go.RowKit
set_option linter.unusedSimpArgs false
set_option linter.unusedVariables false

theorem Try.in9 (w : World) (vs : Array Value) : (callFunc 9 vs).run Try.prog w = .ok (.enter 9 vs) w := by kernel_rfl
theorem Try.in13 (w : World) (vs : Array Value) : (callFunc 13 vs).run Try.prog w = .ok (.enter 13 vs) w := by kernel_rfl
theorem Try.in14 (w : World) (vs : Array Value) : (callFunc 14 vs).run Try.prog w = .ok (.enter 14 vs) w := by kernel_rfl

theorem rep_next (t : Nat) (l : List Int) (m : Int) (h : t < l.length) : (List.replicate t m ++ l.drop t).set t m = List.replicate (t + 1) m ++ l.drop (t + 1) := fill_next l t m h
theorem rep_get (n t : Nat) (m : Int) (h : t < n) : (List.replicate n m).getD t 0 = m := by simp [List.getD_eq_getElem?_getD, h]
theorem rep_app (n : Nat) (m : Int) : List.replicate n m ++ [m] = List.replicate (n + 1) m := by rw [List.replicate_succ']
/-- Two lists that are apart. -/
def Apt (u v : Value) : Prop := ∀ k, u.ownBlock = some k → v.ownBlock ≠ some k

structure LU (w : World) (Z g4 : Nat) (ch : Array Value) (X Y vw : Value) (l : List Int) (N : Nat) (m1 m2 : Int) (a b : Nat) (u v : Value) (wr : World) : Prop where
  ou : OwnJ wr u (List.replicate (N + a) m1)
  ov : OwnJ wr v (List.replicate (N + b) m2)
  ox : OwnJ wr X (List.replicate N m1)
  oy : OwnJ wr Y (List.replicate N m2)
  ow : OwnJ wr vw l
  g : Blk wr g4 27 ch
  B : Below w.heap.size w wr
  apt : Apt u v
  fu : (a = 0 ∧ u = X) ∨ ∀ k, u.ownBlock = some k → Z ≤ k
  fv : (b = 0 ∧ v = Y) ∨ ∀ k, v.ownBlock = some k → Z ≤ k
theorem Apt.symm {u v : Value} (h : Apt u v) : Apt v u := fun k h1 h2 => h k h2 h1
theorem LU.swap {w wr : World} {Z g4 : Nat} {ch : Array Value} {X Y vw u v : Value} {l : List Int} {N a b : Nat} {m1 m2 : Int} (h : LU w Z g4 ch X Y vw l N m1 m2 a b u v wr) : LU w Z g4 ch Y X vw l N m2 m1 b a v u wr :=
  ⟨h.ov, h.ou, h.oy, h.ox, h.ow, h.g, h.B, h.apt.symm, h.fv, h.fu⟩
theorem LU.more {w wr w' : World} {Z g4 : Nat} {ch : Array Value} {X Y vw u v : Value} {l : List Int} {N a b : Nat} {m1 m2 : Int} (h : LU w Z g4 ch X Y vw l N m1 m2 a b u v wr) (hb : Below wr.heap.size wr w') : LU w Z g4 ch X Y vw l N m1 m2 a b u v w' :=
  ⟨h.ou.below hb, h.ov.below hb, h.ox.below hb, h.oy.below hb, h.ow.below hb, h.g.below hb h.g.lt, h.B.trans (hb.mono h.B.size), h.apt, h.fu, h.fv⟩
/-- Values whose blocks lie below Z. -/
def Low (Z : Nat) (v : Value) : Prop := ∀ k, v.ownBlock = some k → k < Z
theorem LU.app {w wr w' : World} {Z g4 : Nat} {ch : Array Value} {X Y vw u v u' : Value} {l : List Int} {N a b : Nat} {m1 m2 : Int} (h : LU w Z g4 ch X Y vw l N m1 m2 a b u v wr) (hp : AppPostJ wr u (List.replicate (N + a) m1 ++ [m1]) u' w')
    (hX : ∀ a n c, X = .slice a n c → n = c) (hXs : ∃ a n c, X = .slice a n c) (lX : Low Z X) (lY : Low Z Y) (lw : Low Z vw) (lg : g4 < Z) (hZ : w.heap.size ≤ Z) (hZr : Z ≤ wr.heap.size) : LU w Z g4 ch X Y vw l N m1 m2 (a + 1) b u' v w' := by
  have hO := hp.1
  rw [rep_app, Nat.add_assoc] at hO
  rcases hp.2 with ⟨h1, h2, h3⟩ | ⟨h1, h2⟩
  · have hf : ∀ k, u.ownBlock = some k → Z ≤ k := by
      rcases h.fu with ⟨_, e⟩ | hf
      · obtain ⟨xa, xn, xc, e2⟩ := hXs
        have := h3 xa xn xc (by rw [e, e2])
        have := hX xa xn xc e2
        omega
      · exact hf
    exact ⟨hO, h.ov.grown h2 (fun k hk e => h.apt k e hk), h.ox.grown h2 (fun k hk e => by have := hf k e; have := lX k hk; omega), h.oy.grown h2 (fun k hk e => by have := hf k e; have := lY k hk; omega),
      h.ow.grown h2 (fun k hk e => by have := hf k e; have := lw k hk; omega), h2.blk h.g (fun e => by have := hf g4 e; omega), h.B.trans (h2.to_below (fun k hk e => by have := hf k e; omega) h.B.size),
      fun k hk => h.apt k (h1 ▸ hk), .inr fun k hk => hf k (h1 ▸ hk), h.fv⟩
  · have h4 := h.more h2
    exact ⟨hO, h4.ov, h4.ox, h4.oy, h4.ow, h4.g, h4.B, fun k hk e => by rw [h1] at hk; injection hk with hk; have := h.ov.lt k e; omega, .inr fun k hk => by rw [h1] at hk; injection hk with hk; omega, h4.fv⟩

set_option maxRecDepth 8000 in
set_option maxHeartbeats 8000000 in
theorem bplaces_any (s : Int) (x : Hs) (n : Int) (w : World) (hs : 0 ≤ s ∧ s < 18446744073709551616) :
    Calls Try.prog 5 #[.int .u64 s, .agg (bytesA 32 x.f), .int .i64 n] w fun e w' => e = .returned (.bool true) ∧ Below w.heap.size w w' := by
  obtain ⟨ch, Hch⟩ : ∃ ch, Keep (ch = bytesA 32 x.f) := ⟨_, ⟨rfl⟩⟩
  have HIch : Keep ((Try.prog.info? 27).map (·.size) = some ch.size) := ⟨by rw [Hch.out]; exact Try.size27B _⟩
  have HOch : Keep (ch.all (·.oneCell') = true) := ⟨by rw [Hch.out]; exact bytesA_one _ _⟩
  have HP : Keep (∀ w, Calls Try.prog 13 #[.int .u64 s, .agg ch, .int .i64 n] w fun e w' => ∃ v, e = .returned v ∧ NewJ w v (plL s x n) w' ∧ ∀ a n c, v = .slice a n c → n = c) := ⟨fun w => by rw [Hch.out]; exact Places_any s x n w hs⟩
  have HQ : Keep (∀ w, Calls Try.prog 12 #[.int .u64 s, .agg ch, .int .i64 n] w fun e w' => ∃ v, e = .returned v ∧ NewJ w v (plL s x n) w') := ⟨fun w => by rw [Hch.out]; exact rPlaces_any s x n w hs⟩
  have HL4 : Keep ((plL s x n).length ≤ 4) := ⟨plL_len s x n⟩
  rw [← Hch.out]
  clear hs
  obtain ⟨l, hl⟩ : ∃ l, Keep (l = plL s x n) := ⟨_, ⟨rfl⟩⟩
  rw [← hl.out] at HP HQ HL4
  go_enter Try.func5, Try.ntmps5
  go_wp2_with (first | (refine wpList_boxA rfl 27 (.tmp 1) rfl ch rfl ?_; refine Hid.out ?_))
  refine hid_in ?_
  have H4 := Keep.mk (Blk.new w 27 ch)
  have HB := Keep.mk (below_new w (.cells ch 27))
  obtain ⟨g4, hg4⟩ : ∃ g, Keep (g = w.heap.size) := ⟨_, ⟨rfl⟩⟩
  rw [← hg4.out] at H4 ⊢
  generalize w.alloc (.cells ch 27) = wa at *
  go_wp2_with fail
  refine (fixed_any wa).mono ?_
  rintro e w1 ⟨rfl, hb1⟩
  have H4a := Keep.mk (H4.out.below hb1 H4.out.lt)
  have HBa := Keep.mk (HB.out.trans (hb1.mono HB.out.size))
  clear hb1 H4 HB
  go_wp2_with (first | (refine wpList_load_row rfl 27 (.tmp 4) rfl g4 rfl 27 ch (0, 0) (.array 32 5) H4a.out Try.underlying27 rfl HIch.out ?_))
  refine (HQ.out w1).mono ?_
  rintro e w2 ⟨vw, rfl, hJ⟩
  have HW2 := Keep.mk hJ.1
  have hfw := hJ.2.1
  have H4b := Keep.mk (H4a.out.below hJ.2.2 H4a.out.lt)
  have HBb := Keep.mk (HBa.out.trans (hJ.2.2.mono HBa.out.size))
  have hsz1 := HBa.out.size
  clear hJ H4a HBa HQ
  go_wp2_with (first | (refine wpList_load_row rfl 27 (.tmp 4) rfl g4 rfl 27 ch (0, 0) (.array 32 5) H4b.out Try.underlying27 rfl HIch.out ?_))
  refine (HP.out w2).mono ?_
  rintro e w3 ⟨vx, rfl, hJ, hfx⟩
  have HX3 := Keep.mk hJ.1
  have HW3 := Keep.mk (HW2.out.below hJ.2.2)
  have HAwx : Keep (Apt vw vx) := ⟨fun k h1 h2 => by have := HW2.out.lt k h1; have := hJ.2.1 k h2; omega⟩
  have hfx1 := hJ.2.1
  have H4c := Keep.mk (H4b.out.below hJ.2.2 H4b.out.lt)
  have HBc := Keep.mk (HBb.out.trans (hJ.2.2.mono HBb.out.size))
  have hsz2 := HBb.out.size
  clear hJ H4b HBb HW2
  go_wp2_with (first | (refine wpList_load_row rfl 27 (.tmp 4) rfl g4 rfl 27 ch (0, 0) (.array 32 5) H4c.out Try.underlying27 rfl HIch.out ?_))
  refine (HP.out w3).mono ?_
  rintro e w4 ⟨vy, rfl, hJ, hfy⟩
  have HY4 := Keep.mk hJ.1
  have HX4 := Keep.mk (HX3.out.below hJ.2.2)
  have HW4 := Keep.mk (HW3.out.below hJ.2.2)
  have HAwy : Keep (Apt vw vy) := ⟨fun k h1 h2 => by have := HW3.out.lt k h1; have := hJ.2.1 k h2; omega⟩
  have HAxy : Keep (Apt vx vy) := ⟨fun k h1 h2 => by have := HX3.out.lt k h1; have := hJ.2.1 k h2; omega⟩
  have HGx : Keep (∀ k, vx.ownBlock = some k → w.heap.size ≤ k) := ⟨fun k h => by have := hfx1 k h; omega⟩
  have hsz3 := HBc.out.size
  have HGy : Keep (∀ k, vy.ownBlock = some k → w.heap.size ≤ k) := ⟨fun k h => by have := hJ.2.1 k h; omega⟩
  have H4d := Keep.mk (H4c.out.below hJ.2.2 H4c.out.lt)
  have HBd := Keep.mk (HBc.out.trans (hJ.2.2.mono HBc.out.size))
  have HFx := Keep.mk hfx
  have HFy := Keep.mk hfy
  clear hJ H4c HBc HX3 HW3 hfx1 hfw hsz1 hsz2 hsz3 hfx hfy
  go_wp2_with fail
  refine (sameInts_any vx vw l w4 HX4.out HW4.out (by have := HL4.out; omega)).mono ?_
  rintro e w5 ⟨rfl, hb5⟩
  have HX5 := Keep.mk (HX4.out.below hb5)
  have HY5 := Keep.mk (HY4.out.below hb5)
  have HW5 := Keep.mk (HW4.out.below hb5)
  have H4e := Keep.mk (H4d.out.below hb5 H4d.out.lt)
  have HBe := Keep.mk (HBd.out.trans (hb5.mono HBd.out.size))
  clear hb5 HX4 HY4 HW4 H4d HBd
  go_wp2_with fail
  refine (sameInts_any vy vw l w5 HY5.out HW5.out (by have := HL4.out; omega)).mono ?_
  rintro e w6 ⟨rfl, hb6⟩
  have HX6 := Keep.mk (HX5.out.below hb6)
  have HY6 := Keep.mk (HY5.out.below hb6)
  have HW6 := Keep.mk (HW5.out.below hb6)
  have H4f := Keep.mk (H4e.out.below hb6 H4e.out.lt)
  have HBf := Keep.mk (HBe.out.trans (hb6.mono HBe.out.size))
  clear hb6 HX5 HY5 HW5 H4e HBe
  obtain ⟨xa, xc, rfl⟩ := HX6.out.sl
  obtain ⟨ya, yc, rfl⟩ := HY6.out.sl
  obtain ⟨N, hN⟩ : ∃ N, Keep (N = l.length) := ⟨_, ⟨rfl⟩⟩
  rw [← hN.out] at HX6 HY6 HAwx HAwy HAxy HGx HGy HFx HFy HL4 ⊢
  have hN4 := HL4.out
  go_wp2_with fail
  go_loopw [13] (fun i wr => ∃ t : Nat, t ≤ N ∧ i = .int .i64 t ∧ OwnJ wr (.slice xa N xc) (List.replicate t (-7) ++ l.drop t) ∧ OwnJ wr (.slice ya N yc) (List.replicate t (-8) ++ l.drop t) ∧ OwnJ wr vw l ∧ Blk wr g4 27 ch ∧ Below w.heap.size w wr) (fun i _ => N - (intOf i).toNat)
  case atStart => exact ⟨0, by omega, rfl, HX6.out, HY6.out, HW6.out, H4f.out, HBf.out⟩
  case round =>
    clear HX6 HY6 HW6 H4f HBf
    obtain ⟨t, ht, rfl, hX, hY, hW, h4, hB⟩ := hrel
    by_cases hlt : t < N
    · have hlt' : (t : Int) < N := by omega
      have hltl : t < l.length := by rw [← hN.out]; exact hlt
      obtain ⟨gx, rfl, cx, fx, -⟩ := hX.at (i := t) (by simp; omega)
      obtain ⟨gy, rfl, cy, fy, -⟩ := hY.at (i := t) (by simp; omega)
      have hxy : gy ≠ gx := fun e => HAxy.out gx rfl (by rw [e]; rfl)
      have hgx := HGx.out gx rfl
      have hgy := HGy.out gy rfl
      have HX1 := Keep.mk ((hX.set t (-7)).setNe (g := gy) (by simp [Value.ownBlock]; omega) t (.int .i64 (-8)))
      rw [rep_next t l (-7) hltl] at HX1
      have HY1 := Keep.mk ((hY.setNe (g := gx) (by simp [Value.ownBlock]; omega) t (.int .i64 (-7))).set t (-8))
      rw [rep_next t l (-8) hltl] at HY1
      have HW1 := Keep.mk ((hW.setNe (g := gx) (fun e => HAwx.out gx e rfl) t (.int .i64 (-7))).setNe (g := gy) (fun e => HAwy.out gy e rfl) t (.int .i64 (-8)))
      have hn4x : g4 ≠ gx := fun e => hX.ne h4 (by decide) (by rw [e]; rfl)
      have hn4y : g4 ≠ gy := fun e => hY.ne h4 (by decide) (by rw [e]; rfl)
      have H41 := Keep.mk ((h4.set_ne (b' := gx) (j := t) hn4x (.int .i64 (-7))).set_ne (b' := gy) (j := t) hn4y (.int .i64 (-8)))
      have HB1 := Keep.mk ((hB.setCell hgx (p := ⟨gx, t, none⟩) (.int .i64 (-7))).setCell hgy (p := ⟨gy, t, none⟩) (.int .i64 (-8)))
      have cy1 : (wr.setCell ⟨gx, t, none⟩ (.int .i64 (-7))).cell? ⟨gy, t, none⟩ = some (.int .i64 ((List.replicate t (-8) ++ l.drop t).getD t 0)) := by
        obtain ⟨_, e1, h1, _⟩ := (hY.setNe (g := gx) (by simp [Value.ownBlock]; omega) t (.int .i64 (-7))).at (i := t) (by simp; omega)
        injection e1 with e1
        injection e1 with e1
        subst e1
        exact h1
      have fy1 : (wr.setCell ⟨gx, t, none⟩ (.int .i64 (-7))).frozen? ⟨gy, t, none⟩ = false := by
        obtain ⟨_, e1, _, h1, _⟩ := (hY.setNe (g := gx) (by simp [Value.ownBlock]; omega) t (.int .i64 (-7))).at (i := t) (by simp; omega)
        injection e1 with e1
        injection e1 with e1
        subst e1
        exact h1
      clear hX hY hW h4 hB cy fy
      generalize (List.replicate t (-8) ++ l.drop t).getD t 0 = zy at *
      generalize (List.replicate t (-7) ++ l.drop t).getD t 0 = zx at *
      go_wp2
      go_roundw
      case rel => exact ⟨t + 1, by omega, by go_num, HX1.out, HY1.out, HW1.out, H41.out, HB1.out⟩
      case measure => simp only [intOf]; omega
    · obtain rfl : t = N := by omega
      have HX := Keep.mk (show OwnJ wr (.slice xa t xc) (List.replicate t (-7)) by simpa [hN.out] using hX)
      have HY := Keep.mk (show OwnJ wr (.slice ya t yc) (List.replicate t (-8)) by simpa [hN.out] using hY)
      have HW := Keep.mk hW
      have H4 := Keep.mk h4
      have HB := Keep.mk hB
      clear hX hY hW h4 hB hlt ht
      have HLX : Keep (Low wr.heap.size (.slice xa t xc)) := ⟨HX.out.lt⟩
      have HLY : Keep (Low wr.heap.size (.slice ya t yc)) := ⟨HY.out.lt⟩
      have HLW : Keep (Low wr.heap.size vw) := ⟨HW.out.lt⟩
      have HLg : Keep (g4 < wr.heap.size) := ⟨H4.out.lt⟩
      have HZ : Keep (w.heap.size ≤ wr.heap.size) := ⟨HB.out.size⟩
      have HLU : Keep (LU w wr.heap.size g4 ch (.slice xa t xc) (.slice ya t yc) vw l t (-7) (-8) 0 0 (.slice xa t xc) (.slice ya t yc) wr) := ⟨⟨HX.out, HY.out, HX.out, HY.out, HW.out, H4.out, HB.out, HAxy.out, .inl ⟨rfl, rfl⟩, .inl ⟨rfl, rfl⟩⟩⟩
      obtain ⟨N, rfl⟩ : ∃ N, N = t := ⟨_, rfl⟩
      obtain ⟨Z, hZ⟩ : ∃ Z, Keep (Z = wr.heap.size) := ⟨_, ⟨rfl⟩⟩
      have HZr : Keep (Z ≤ wr.heap.size) := ⟨by rw [hZ.out]; exact Nat.le_refl _⟩
      rw [← hZ.out] at HLX HLY HLW HLg HZ HLU
      clear HX HY HW H4 HB HAwx HAwy HAxy HGx HGy
      go_wp2_with fail
      go_loopw [14, 15, 16] (fun s14 s15 i wr => ∃ (t : Nat) (u v : Value), t ≤ 6 ∧ u = s14 ∧ v = s15 ∧ i = .int .i64 t ∧ LU w Z g4 ch (.slice xa N xc) (.slice ya N yc) vw l N (-7) (-8) t t u v wr ∧ Z ≤ wr.heap.size) (fun _ _ i _ => 6 - (intOf i).toNat)
      case atStart => exact ⟨0, _, _, by omega, rfl, rfl, rfl, HLU.out, HZr.out⟩
      case round =>
        clear HLU HZr
        obtain ⟨t, u, v, ht, rfl, rfl, rfl, hU, hZr⟩ := hrel
        by_cases hlt : t < 6
        · have hlt' : (t : Int) < 6 := by omega
          have HU1 := Keep.mk (hU.more (below_new wr (.cells #[.int .i64 (-7)] 3)))
          have HZ1 : Keep (Z ≤ (wr.alloc (.cells #[.int .i64 (-7)] 3)).heap.size) := ⟨by rw [World.size_alloc]; omega⟩
          have hc1 : Keep ((wr.alloc (.cells #[.int .i64 (-7)] 3)).cell? ⟨wr.heap.size, 0, none⟩ = some (.int .i64 (-7))) := ⟨cell_one wr _ _⟩
          have hlen : Keep ((List.replicate (N + t) (-7 : Int)).length + 1 ≤ 1000000) := ⟨by simp; omega⟩
          have hlen2 : Keep ((List.replicate (N + t) (-8 : Int)).length + 1 ≤ 1000000) := ⟨by simp; omega⟩
          clear hU hZr
          go_wp2_with (first | (at_builtin; refine wpList_appJ rfl (.tmp 66) (.tmp 67) rfl _ (List.replicate (N + t) (-7)) wr.heap.size (-7) rfl rfl HU1.out.ou hc1.out hlen.out ?_; intro v' w' hp; refine Hid.out ?_))
          refine hid_in ?_
          have HU2 := Keep.mk (HU1.out.app hp HFx.out ⟨_, _, _, rfl⟩ HLX.out HLY.out HLW.out HLg.out HZ.out HZ1.out)
          have HZ2 : Keep (Z ≤ w'.heap.size) := ⟨Nat.le_trans HZ1.out hp.grown.size⟩
          clear hp HU1 HZ1 hc1
          have HU3 := Keep.mk (HU2.out.more (below_new w' (.cells #[.int .i64 (-8)] 3)))
          have HZ3 : Keep (Z ≤ (w'.alloc (.cells #[.int .i64 (-8)] 3)).heap.size) := ⟨by rw [World.size_alloc]; have := HZ2.out; omega⟩
          have hc3 : Keep ((w'.alloc (.cells #[.int .i64 (-8)] 3)).cell? ⟨w'.heap.size, 0, none⟩ = some (.int .i64 (-8))) := ⟨cell_one w' _ _⟩
          clear HU2 HZ2
          go_wp2_with (first | (at_builtin; refine wpList_appJ rfl (.tmp 69) (.tmp 70) rfl _ (List.replicate (N + t) (-8)) w'.heap.size (-8) rfl rfl HU3.out.ov hc3.out hlen2.out ?_; intro v2 w2 hp; refine Hid.out ?_))
          refine hid_in ?_
          have HU4 := Keep.mk ((HU3.out.swap.app hp HFy.out ⟨_, _, _, rfl⟩ HLY.out HLX.out HLW.out HLg.out HZ.out HZ3.out).swap)
          have HZ4 : Keep (Z ≤ w2.heap.size) := ⟨Nat.le_trans HZ3.out hp.grown.size⟩
          clear hp HU3 HZ3 hc3
          go_wp2
          go_roundw
          case rel => exact ⟨t + 1, _, _, by omega, rfl, rfl, by go_num, HU4.out, HZ4.out⟩
          case measure => simp only [intOf]; omega
        · obtain rfl : t = 6 := by omega
          rw [show ((6 : Nat) : Int) = 6 from rfl]
          have HU := Keep.mk hU
          obtain ⟨ua, uc, rfl⟩ := hU.ou.sl
          obtain ⟨va, vc, rfl⟩ := hU.ov.sl
          rw [List.length_replicate] at HU ⊢
          rw [List.length_replicate] at HU ⊢
          clear hU hZr hlt ht
          go_wp2_with fail
          go_loop [17] (fun i => ∃ t : Nat, t ≤ N + 6 ∧ i = .int .i64 t) (fun i => N + 6 - (intOf i).toNat)
          case atStart => exact ⟨0, by omega, rfl⟩
          case round =>
            obtain ⟨t, ht, rfl⟩ := hrel
            by_cases hlt : t < N + 6
            · have hlt' : (t : Int) < ((N + 6 : Nat) : Int) := by omega
              obtain ⟨gu, rfl, cu, -, -⟩ := HU.out.ou.at (i := t) (by simp; omega)
              obtain ⟨gv, rfl, cv, -, -⟩ := HU.out.ov.at (i := t) (by simp; omega)
              rw [rep_get _ _ _ hlt] at cu cv
              by_cases htN : t < N
              · have htN' : (t : Int) < N := by omega
                obtain ⟨gx, rfl, cx, -, -⟩ := HU.out.ox.at (i := t) (by simp; omega)
                obtain ⟨gy, rfl, cy, -, -⟩ := HU.out.oy.at (i := t) (by simp; omega)
                rw [rep_get _ _ _ htN] at cx cy
                go_wp2
                refine ⟨⟨t + 1, by omega, by go_num⟩, by simp only [intOf]; omega⟩
              · have htN' : ¬ (t : Int) < N := by omega
                go_wp2
                refine ⟨⟨t + 1, by omega, by go_num⟩, by simp only [intOf]; omega⟩
            · obtain rfl : t = N + 6 := by omega
              go_wp2_with (first | (refine wpList_load_row rfl 27 (.tmp 4) rfl g4 rfl 27 ch (0, 0) (.array 32 5) HU.out.g Try.underlying27 rfl HIch.out ?_))
              refine (HP.out wr).mono ?_
              rintro e w8 ⟨vz, rfl, hJ, -⟩
              have HJ := Keep.mk hJ.1
              have HW8 := Keep.mk (HU.out.ow.below hJ.2.2)
              have HB8 := Keep.mk (HU.out.B.trans (hJ.2.2.mono HU.out.B.size))
              clear hJ
              go_wp2_with fail
              refine (sameInts_any vz vw l w8 HJ.out HW8.out (by rw [← hN.out]; omega)).mono ?_
              rintro e w9 ⟨rfl, hb9⟩
              have HB9 := Keep.mk (HB8.out.trans (hb9.mono HB8.out.size))
              clear hb9
              go_wp2
              go_ret
              exact ⟨rfl, HB9.out⟩

end Go.Proofs.Ytfheinghkigocaa
namespace Go.Proofs.Ytfheinghkigocaa
open Go.ChangeShapes Go.WideShapes Go.ChangeAt Go.RowKit Go.Deep
set_option linter.unusedSimpArgs false
set_option linter.unusedVariables false

theorem Try.cellsOf35 : Try.prog.cellsOf 35 = 1 := by kernel_rfl
theorem Try.cellsOf32 : Try.prog.cellsOf 32 = 1 := by kernel_rfl
theorem Try.cellsOf25 : Try.prog.cellsOf 25 = 1 := by kernel_rfl
theorem Try.cellsOf3 : Try.prog.cellsOf 3 = 1 := by kernel_rfl
theorem Try.cellsOf5 : Try.prog.cellsOf 5 = 1 := by kernel_rfl
theorem Try.cellsOf27 : Try.prog.cellsOf 27 = 32 := by kernel_rfl
theorem Try.bytesOf5 : Try.prog.bytesOf 5 = 1 := by kernel_rfl
theorem Try.bytesOf27 : Try.prog.bytesOf 27 = 32 := by kernel_rfl
theorem reach_is : reachBytes = 140737488351232 := by decide
theorem add_none' (b o i : Nat) : (⟨b, o, none⟩ : Addr).add i = ⟨b, o + i, none⟩ := by
  cases i with
  | zero => rfl
  | succ i => rfl
theorem wf_u8 {n : Int} (h : (Lit.int .u8 n).wf = true) : 0 ≤ n ∧ n < 256 := by
  have h1 : IntKind.u8.min = 0 := by decide
  have h2 : IntKind.u8.max = 255 := by decide
  simp only [Lit.wf, h1, h2, Bool.and_eq_true, decide_eq_true_eq] at h
  omega
theorem wf_i64 {n : Int} (h : (Lit.int .i64 n).wf = true) : -9223372036854775808 ≤ n ∧ n ≤ 9223372036854775807 := by
  have h1 : IntKind.i64.min = -9223372036854775808 := by decide
  have h2 : IntKind.i64.max = 9223372036854775807 := by decide
  simp only [Lit.wf, h1, h2, Bool.and_eq_true, decide_eq_true_eq] at h
  omega

/-- A reading of a slice of bytes tells a row. -/
theorem row_of_trod {H : Type} {enc : TypeId × Value → H} {W : World} {sp : Nat → Bool} {held : Bool} {n base : Nat} {v : Value} {x : DataW H × List MemPlace} (hf : DataW.trod enc Try.prog W base sp held n 35 [v] = some x) (hw : ∀ n ∈ x.1.weights Try.prog 35, n ≤ reachBytes) :
    ∃ l : List Int, RowAt W v l ∧ Byts l ∧ l.length ≤ 140737488351232 := by
  rcases open_ints Try.underlying35 Try.underlying5 Try.cellsOf5 hf with ⟨hcs, _⟩ | ⟨a, len, cap, zs, hcs, _, hl, hm, hz, hx, hcell, hwz⟩
  · simp at hcs
    subst hcs
    exact ⟨[], .inl ⟨rfl, rfl⟩, Byts.nil, by simp⟩
  · simp at hcs
    subst hcs
    unfold maxLen at hm
    have hlz : len ≤ zs.length := by rw [hz]; split <;> omega
    have hbz : Byts zs := fun c hc => wf_u8 (hwz c hc)
    have hb : len ≤ 140737488351232 := by
      have h1 := hw ((zs.take len).length + (zs.drop len).length) (by
        rw [hx]
        simp only [DataW.weights, Try.underlying35]
        simp [lits, Try.bytesOf5])
      rw [List.length_take, reach_is] at h1
      omega
    by_cases h0 : len = 0
    · subst h0
      exact ⟨[], .inr (.inl ⟨a, cap, rfl, rfl⟩), Byts.nil, by simp⟩
    · have hs : a.spot = none := by
        have := hcell 0 (by omega)
        rw [show a.add 0 = a from rfl] at this
        exact World.cell?_spot this
      obtain ⟨b, off, sp⟩ := a
      obtain rfl : sp = none := hs
      have hlen : (zs.take len).length = len := by rw [List.length_take]; omega
      refine ⟨zs.take len, .inr (.inr ⟨b, off, cap, by rw [hlen], by omega, fun i hi => ?_⟩), hbz.take len, by omega⟩
      rw [hlen] at hi
      have := hcell i (by omega)
      rw [add_none'] at this
      rw [this]
      simp [List.getD, hi]
theorem trod_struct3 {H : Type} {enc : TypeId × Value → H} {P : Program} {w : World} {base : Nat} {spare : Nat → Bool} {held : Bool} {t : TypeId} {f0 f1 f2 : Field} {fuel : Nat} {cs : List Value} {x : DataW H × List MemPlace} (ht : P.underlying t = some (.struct #[f0, f1, f2])) (h : DataW.trod enc P w base spare held fuel t cs = some x) :
    ∃ y0 y1 y2 n, x.1 = .agg [y0.1, y1.1, y2.1] ∧ cs.length = P.cellsOf t ∧ DataW.trod enc P w base spare held n f0.type ((cs.drop f0.offset).take (P.cellsOf f0.type)) = some y0 ∧
      DataW.trod enc P w base spare held n f1.type ((cs.drop f1.offset).take (P.cellsOf f1.type)) = some y1 ∧ DataW.trod enc P w base spare held n f2.type ((cs.drop f2.offset).take (P.cellsOf f2.type)) = some y2 := by
  obtain ⟨xs, n, _, rfl, hl, hlen, hf⟩ := DataW.trod_struct ht h
  match xs, hlen with
  | [y0, y1, y2], _ => exact ⟨y0, y1, y2, n, by simp, hl, by simpa using hf 0 f0 rfl, by simpa using hf 1 f1 rfl, by simpa using hf 2 f2 rfl⟩
theorem wf_u64 {n : Int} (h : (Lit.int .u64 n).wf = true) : 0 ≤ n ∧ n < 18446744073709551616 := by
  have h1 : IntKind.u64.min = 0 := by decide
  have h2 : IntKind.u64.max = 18446744073709551615 := by decide
  simp only [Lit.wf, h1, h2, Bool.and_eq_true, decide_eq_true_eq] at h
  omega
theorem take_one {l : List Value} {i : Nat} {v : Value} (h : (l.drop i).take 1 = [v]) : l[i]? = some v := by
  have h2 : ((l.drop i).take 1)[0]? = some v := by rw [h]; rfl
  rw [List.getElem?_take, if_pos (by omega), List.getElem?_drop] at h2
  simpa using h2
/-- A reading of 32 cells as a hash tells its bytes. -/
theorem hash_of_trod {H : Type} {enc : TypeId × Value → H} {W : World} {sp : Nat → Bool} {held : Bool} {n base : Nat} {l : List Value} {x : DataW H × List MemPlace} (hf : DataW.trod enc Try.prog W base sp held n 27 l = some x) :
    ∃ c : Nat → Int, l = (bytesA 32 c).toList ∧ ∀ i, i < 32 → 0 ≤ c i ∧ c i < 256 := by
  obtain ⟨xs, m, _, _, hl, hx, hel⟩ := DataW.trod_array Try.underlying27 hf
  rw [Try.cellsOf27] at hl
  rw [Try.cellsOf5] at hel
  have each : ∀ i, i < 32 → ∃ z : Int, l[i]? = some (.int .u8 z) ∧ 0 ≤ z ∧ z < 256 := by
    intro i hi
    have h1 := hel i hi
    rw [List.getElem?_eq_getElem (by omega), Nat.mul_one] at h1
    obtain ⟨z, hz, _, hw⟩ := DataW.trod_int Try.underlying5 h1
    have hb := wf_u8 hw
    exact ⟨z, take_one hz, by omega, by omega⟩
  obtain ⟨c, hc⟩ := Go.Deep.choose_lt each
  refine ⟨c, ?_, fun i hi => (hc i hi).2⟩
  apply List.ext_getElem?
  intro i
  by_cases hi : i < 32
  · rw [(hc i hi).1, Array.getElem?_toList, bytesA_get _ _ _ hi]
  · rw [List.getElem?_eq_none (by omega), List.getElem?_eq_none (by rw [Array.length_toList, bytesA_size]; omega)]
/-- A reading of a slice of hashes tells a row. -/
theorem hrow_of_trod {H : Type} {enc : TypeId × Value → H} {W : World} {sp : Nat → Bool} {held : Bool} {n base : Nat} {v : Value} {x : DataW H × List MemPlace} (hf : DataW.trod enc Try.prog W base sp held n 32 [v] = some x) :
    ∃ L : List Hs, HRow W v L ∧ (L = [] ∨ ∃ (D : Nat → DataW H) (rest : List (DataW H)), x.1 = .slice ((List.range L.length).map D) rest) := by
  rcases open_slice Try.underlying32 hf with ⟨hcs, _⟩ | ⟨a, len, cap, m, n, D, Pl, hcs, _, hl, hm, hz, hx, hcell⟩
  · simp at hcs
    subst hcs
    exact ⟨[], .inl ⟨none, 0, rfl, rfl, fun _ => rfl⟩, .inl rfl⟩
  · simp at hcs
    subst hcs
    have hlz : len ≤ m := by rw [hz]; split <;> omega
    by_cases h0 : len = 0
    · subst h0
      exact ⟨[], .inl ⟨some a, cap, rfl, rfl, fun h => by cases h⟩, .inl rfl⟩
    · have each0 : ∀ i, i < len → ∃ c : Nat → Int, (∀ j, j < 32 → 0 ≤ c j ∧ c j < 256) ∧ ∀ j, j < 32 → W.cell? ((a.add (i * 32)).add j) = some (.int .u8 (c j)) := by
        intro i hi
        obtain ⟨cs', h1, h2⟩ := hcell i (by omega)
        rw [Try.cellsOf27] at h1
        obtain ⟨_, hlen, hce⟩ := World.cells?_some h1
        obtain ⟨c, hcs, hc⟩ := hash_of_trod h2
        refine ⟨c, hc, fun j hj => ?_⟩
        rw [hce j hj, hcs, Array.getElem?_toList, bytesA_get 32 c j hj]
      have hs : a.spot = none := by
        obtain ⟨c, _, h3⟩ := each0 0 (by omega)
        have h4 := h3 0 (by omega)
        rw [Nat.zero_mul, show (a.add 0).add 0 = a from rfl] at h4
        exact World.cell?_spot h4
      obtain ⟨b, off, sp⟩ := a
      obtain rfl : sp = none := hs
      have each : ∀ i, i < len → ∃ y : Hs, W.rangeAt b (off + i * 32) (encH y) := by
        intro i hi
        obtain ⟨c, hc, h3⟩ := each0 i hi
        refine ⟨Hs.mk' c hc, fun j v hv => ?_⟩
        have hj : j < 32 := by have := (List.getElem?_eq_some_iff.1 hv).1; rwa [encH_len] at this
        rw [encH_get _ _ hj, Hs.mk'_f _ _ _ hj] at hv
        have h4 := h3 j hj
        rw [Addr.add_mid, Addr.add_mid] at h4
        rw [h4]; exact hv
      obtain ⟨y, hy⟩ := Go.Deep.choose_lt each
      refine ⟨(List.range len).map y, .inr ⟨b, off, cap, by simp, by simpa using hl, rangeAt_of_elems fun i hi => ?_⟩, .inr ⟨D, (List.range (m - len)).map fun j => D (len + j), ?_⟩⟩
      · have hi' : i < len := by simpa using hi
        simpa using hy i hi'
      · rw [hx]; simp
/-- A hash that is handed in. -/
theorem hs_of_trod {H : Type} {enc : TypeId × Value → H} {W : World} {sp : Nat → Bool} {held : Bool} {n base : Nat} {l : List Value} {x : DataW H × List MemPlace} (hf : DataW.trod enc Try.prog W base sp held n 27 l = some x) : ∃ y : Hs, l = (bytesA 32 y.f).toList := by
  obtain ⟨c, hl, hc⟩ := hash_of_trod hf
  have h := (mkH_arr c hc).trans (encH_arr (Hs.mk' c hc))
  generalize Hs.mk' c hc = y at h
  exact ⟨y, by rw [hl, h]⟩
/-- A slice of hashes that is handed in. -/
theorem hrows_of_trod {H : Type} {enc : TypeId × Value → H} {W : World} {sp : Nat → Bool} {held : Bool} {n base : Nat} {v : Value} {x : DataW H × List MemPlace} (hf : DataW.trod enc Try.prog W base sp held n 32 [v] = some x) (hw : ∀ n ∈ x.1.weights Try.prog 32, n ≤ reachBytes) :
    ∃ L : List Hs, HRow W v L ∧ L.length ≤ 4398046510976 := by
  obtain ⟨L, h1, h2⟩ := hrow_of_trod hf
  refine ⟨L, h1, ?_⟩
  rcases h2 with rfl | ⟨D, rest, hx⟩
  · simp
  · have h3 := hw ((((List.range L.length).map D).length + rest.length) * 32) (by
      rw [hx]
      simp only [DataW.weights, Try.underlying32]
      simp [Try.bytesOf27])
    rw [reach_is] at h3
    simp only [List.length_map, List.length_range] at h3
    omega
theorem Try.cellsOf34 : Try.prog.cellsOf 34 = 34 := by kernel_rfl
/-- An Ask that is handed in. -/
theorem ask_of_trod {H : Type} {enc : TypeId × Value → H} {W : World} {sp : Nat → Bool} {held : Bool} {n base : Nat} {cs : List Value} {x : DataW H × List MemPlace} (hf : DataW.trod enc Try.prog W base sp held n 34 cs = some x) (hw : ∀ n ∈ x.1.weights Try.prog 34, n ≤ reachBytes) :
    ∃ (s : Int) (v : Value) (L : List Hs) (y : Hs), cs = .int .u64 s :: v :: encH y ∧ (0 ≤ s ∧ s < 18446744073709551616) ∧ HRow W v L ∧ L.length ≤ 4398046510976 := by
  obtain ⟨y0, y1, y2, k, hx, hl, h0, h1, h2⟩ := trod_struct3 Try.underlying34 hf
  rw [Try.cellsOf34] at hl
  match cs, hl with
  | a :: b :: c, hl =>
  have hc : c.length = 32 := by simpa using hl
  simp only [Try.cellsOf25, Try.cellsOf32, Try.cellsOf27, List.drop_zero, List.take_succ_cons, List.take_zero, List.drop_succ_cons] at h0 h1 h2
  rw [List.take_of_length_le (by omega)] at h2
  obtain ⟨n0, e0, w0⟩ := DataW.trod_int Try.underlying25 h0
  obtain ⟨L, r1, r2⟩ := hrows_of_trod h1 (fun n hn => hw n (by
    rw [hx]
    simp only [DataW.weights, Try.underlying34]
    exact DataW.weights_mem_each (j := 1) (t := 32) rfl rfl n hn))
  obtain ⟨y, hy⟩ := hs_of_trod h2
  simp at e0
  exact ⟨n0, b, L, y, by rw [e0, hy, encH], wf_u64 w0.2, r1, r2⟩
end Go.Proofs.Ytfheinghkigocaa
