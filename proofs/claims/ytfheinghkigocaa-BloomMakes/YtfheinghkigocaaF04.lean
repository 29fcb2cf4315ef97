import Derived.Test.YtfheinghkigocaaF03
import Derived.Test.YtfheinghkigocaaF01
namespace Go.Proofs.Ytfheinghkigocaa
open Go.RowKit
set_option linter.unusedSimpArgs false
set_option linter.unusedVariables false

theorem Try.in10 (w : World) (vs : Array Value) : (callFunc 10 vs).run Try.prog w = .ok (.enter 10 vs) w := by kernel_rfl
theorem Try.in11 (w : World) (vs : Array Value) : (callFunc 11 vs).run Try.prog w = .ok (.enter 11 vs) w := by kernel_rfl
theorem Try.in12 (w : World) (vs : Array Value) : (callFunc 12 vs).run Try.prog w = .ok (.enter 12 vs) w := by kernel_rfl
theorem Try.in20 (w : World) (vs : Array Value) : (callFunc 20 vs).run Try.prog w = .ok (.enter 20 vs) w := by kernel_rfl
theorem Try.in34 (w : World) (vs : Array Value) : (callFunc 34 vs).run Try.prog w = .ok (.enter 34 vs) w := by kernel_rfl

/-! ### Digests. -/
/-- A bit laid. -/
def setB (l : List Int) (p : Nat) : List Int := l.set (p / 8) (bits .or .u8 (l.getD (p / 8) 0) (2 ^ (p % 8)))
theorem setB_len (l : List Int) (p : Nat) : (setB l p).length = l.length := by simp [setB]
def addU (l : List Int) (f : Nat → Int) : Nat → List Int
  | 0 => l
  | k + 1 => setB (addU l f k) (f k).toNat
theorem addU_len (l : List Int) (f : Nat → Int) : ∀ k, (addU l f k).length = l.length
  | 0 => rfl
  | k + 1 => by rw [addU, setB_len, addU_len l f k]
def digU (s : Int) (n : Nat) (L : List Hs) : Nat → List Int
  | 0 => List.replicate n 0
  | t + 1 => addU (digU s n L t) (plc s (L.getD t default) n) 4
theorem digU_len (s : Int) (n : Nat) (L : List Hs) : ∀ t, (digU s n L t).length = n
  | 0 => by simp [digU]
  | t + 1 => by rw [digU, addU_len, digU_len s n L t]
/-- The digest of hashes. -/
def digL (s : Int) (L : List Hs) : List Int := digU s (szN L.length) L L.length
theorem digL_len (s : Int) (L : List Hs) : (digL s L).length = szN L.length := digU_len _ _ _ _
theorem or_u8 (a b : Int) (ha : 0 ≤ a ∧ a < 256) (hb : 0 ≤ b ∧ b < 256) : 0 ≤ bits .or .u8 a b ∧ bits .or .u8 a b < 256 := by
  have h : ∀ a b : Fin 256, 0 ≤ bits .or .u8 (a.val : Int) (b.val : Int) ∧ bits .or .u8 (a.val : Int) (b.val : Int) < 256 := by
    intro a b
    have := bits_nat .u8 8 (by decide) (fun n h0 h1 => by rw [IntKind.wrap_u8]; omega) a.val b.val a.isLt b.isLt
    rw [this.2]
    have h3 := Nat.or_lt_two_pow (x := a.val) (y := b.val) (n := 8) a.isLt b.isLt
    omega
  have := h ⟨a.toNat, by omega⟩ ⟨b.toNat, by omega⟩
  simpa [Int.toNat_of_nonneg ha.1, Int.toNat_of_nonneg hb.1] using this
theorem pow8 (r : Nat) (h : r < 8) : (0 : Int) ≤ 2 ^ r ∧ (2 : Int) ^ r < 256 := by
  have h2 : ∀ r : Fin 8, (0 : Int) ≤ 2 ^ r.val ∧ (2 : Int) ^ r.val < 256 := by decide
  exact h2 ⟨r, h⟩
theorem Byts.set {l : List Int} (h : Byts l) (i : Nat) {c : Int} (hc : 0 ≤ c ∧ c < 256) : Byts (l.set i c) := fun z hz => by
  rcases List.mem_or_eq_of_mem_set hz with h1 | rfl
  · exact h z h1
  · exact hc
theorem setB_byts {l : List Int} (h : Byts l) (p : Nat) : Byts (setB l p) := h.set _ (or_u8 _ _ (h.getD _) (pow8 _ (by omega)))
theorem addU_byts {l : List Int} (h : Byts l) (f : Nat → Int) : ∀ k, Byts (addU l f k)
  | 0 => h
  | k + 1 => setB_byts (addU_byts h f k) _
theorem digU_byts (s : Int) (n : Nat) (L : List Hs) : ∀ t, Byts (digU s n L t)
  | 0 => fun z hz => by rw [(List.mem_replicate.1 hz).2]; omega
  | t + 1 => addU_byts (digU_byts s n L t) _ 4
theorem digL_byts (s : Int) (L : List Hs) : Byts (digL s L) := digU_byts _ _ _ _
theorem own_zeros {w : World} {g n : Nat} (h : Blk w g 5 (bytesA n fun _ => 0)) (hn : n ≤ 8192) : Own w (.slice (some ⟨g, 0, none⟩) n n) (List.replicate n 0) := by
  refine ⟨by simp [bv_len], .inr ⟨g, n, _, by simp, Nat.zero_le _, h, by simp, by unfold maxLen; omega, by simp [bytesA_size], ?_⟩⟩
  rw [List.length_replicate, Nat.mul_one, List.take_of_length_le (by rw [Array.length_toList, bytesA_size]; omega), hl_bytesA]
  congr 1
  apply List.ext_getElem?
  intro i
  by_cases hi : i < n <;> simp [hl, hi]
theorem index51 (c : Nat → Int) (t : Nat) (ht : t < 4) (w : World) : (Instr.index 51 (.agg (intA c)) (.int .i64 (t : Int))).run Try.prog w = .ok (.int .i64 (c t)) w := by
  match t, ht with
  | 0, _ => exact (show (Instr.index 51 (.agg (intA c)) (.int .i64 0)).run Try.prog w = .ok (.int .i64 (c 0)) w by kernel_rfl)
  | 1, _ => exact (show (Instr.index 51 (.agg (intA c)) (.int .i64 1)).run Try.prog w = .ok (.int .i64 (c 1)) w by kernel_rfl)
  | 2, _ => exact (show (Instr.index 51 (.agg (intA c)) (.int .i64 2)).run Try.prog w = .ok (.int .i64 (c 2)) w by kernel_rfl)
  | 3, _ => exact (show (Instr.index 51 (.agg (intA c)) (.int .i64 3)).run Try.prog w = .ok (.int .i64 (c 3)) w by kernel_rfl)
theorem hash_at {w : World} {a : Option Addr} {n c : Nat} {L : List Hs} (h : HRow w (.slice a n c) L) {t : Nat} (ht : t < L.length) : ∃ b o, a = some ⟨b, o, none⟩ ∧ w.rangeAt b (o + t * 32) (encH (L.getD t default)) := by
  obtain ⟨b, o, h1, _, _, h2⟩ := h.at (by omega)
  refine ⟨b, o, h1, ?_⟩
  have := rangeAt_elem h2 t ht
  rw [show L.getD t default = L[t] by simp [List.getD_eq_getElem?_getD, ht]]
  exact this

set_option maxRecDepth 8000 in
set_option maxHeartbeats 4000000 in
theorem Of_any (s : Int) (L : List Hs) (v : Value) (w : World) (hs : 0 ≤ s ∧ s < 18446744073709551616) (hL : HRow w v L) (hll : L.length ≤ 4398046511104) :
    Calls Try.prog 16 #[.int .u64 s, v] w fun e w' => ∃ v', e = .returned v' ∧ FreshB w v' (digL s L) w' := by
  obtain ⟨a, c, rfl⟩ := hL.form
  have HR := Keep.mk hL
  have Hs := Keep.mk hs
  have HD : Keep (digL s L = digU s (szN L.length) L L.length) := ⟨rfl⟩
  have hn := szN_rng L.length
  have HSZ := Keep.mk (size_any L.length w)
  obtain ⟨n, hnn⟩ : ∃ n, Keep (n = szN L.length) := ⟨_, ⟨rfl⟩⟩
  rw [← hnn.out] at HD hn HSZ
  clear hs hL
  have hmk := run_makeB n n (Nat.le_refl _) (by omega) w
  have HB := Keep.mk (below_new w (.cells (bytesA n fun _ => 0) 5))
  have HO := Keep.mk (own_zeros (Blk.new w 5 (bytesA n fun _ => 0)) (by omega))
  go_enter Try.func16, Try.ntmps16
  go_wp2_with (first | (go_at_call 10; refine HSZ.out.mono ?_; rintro e w' ⟨rfl, rfl⟩))
  clear HSZ hmk
  obtain ⟨gb, hgb⟩ : ∃ g, Keep (g = w'.heap.size) := ⟨_, ⟨rfl⟩⟩
  rw [← hgb.out] at HO ⊢
  have hgeb : w'.heap.size ≤ gb := by rw [hgb.out]; exact Nat.le_refl _
  generalize w'.alloc (.cells (bytesA n fun _ => 0) 5) = wa at *
  go_loopw [16] (fun i wr => ∃ t : Nat, t ≤ L.length ∧ i = .int .i64 t ∧ Own wr (.slice (some ⟨gb, 0, none⟩) n n) (digU s n L t) ∧ Below w'.heap.size w' wr) (fun i _ => L.length - (intOf i).toNat)
  case atStart => exact ⟨0, by omega, rfl, HO.out, HB.out⟩
  case round =>
    clear HO HB
    obtain ⟨t, ht, rfl, hO, hB⟩ := hrel
    by_cases hlt : t < L.length
    · have hlt' : (t : Int) < L.length := by omega
      obtain ⟨b, o, rfl, hrg⟩ := hash_at (HR.out.below hB) hlt
      have HDn : Keep (digU s n L (t + 1) = addU (digU s n L t) (plc s (L.getD t default) n) 4) := ⟨rfl⟩
      have hl0 : Keep ((digU s n L t).length = n) := ⟨digU_len _ _ _ _⟩
      obtain ⟨x, hx⟩ : ∃ x, Keep (x = L.getD t default) := ⟨_, ⟨rfl⟩⟩
      rw [← hx.out] at HDn hrg
      obtain ⟨l, hl⟩ : ∃ l, Keep (l = digU s n L t) := ⟨_, ⟨rfl⟩⟩
      rw [← hl.out] at HDn hO hl0
      have HO := Keep.mk hO
      have HB := Keep.mk hB
      clear hO hB
      obtain ⟨ch, Hch⟩ : ∃ ch, Keep (ch = bytesA 32 x.f) := ⟨_, ⟨rfl⟩⟩
      have HIch : Keep ((Try.prog.info? 27).map (·.size) = some ch.size) := ⟨by rw [Hch.out]; exact Try.size27B _⟩
      have HOch : Keep (ch.all (·.oneCell') = true) := ⟨by rw [Hch.out]; exact bytesA_one _ _⟩
      have HZch : Keep ((bytesA 32 fun _ => 0).size = ch.size) := ⟨by rw [Hch.out]; exact bytesA_sizes _ _ _⟩
      have hCA : (encH x).toArray = ch := by rw [Hch.out]; exact encH_arr x
      have hiL : (Try.prog.info? 27).map (·.size) = some (encH x).length := Try.size27L x
      have hu := Try.underlying27
      obtain ⟨cp, Hcp⟩ : ∃ cp, Keep (cp = intA (plc s x n)) := ⟨_, ⟨rfl⟩⟩
      have HC : Keep (∀ w, Calls Try.prog 32 #[.int .u64 s, .agg ch, .int .i64 (n : Int)] w fun e w' => e = .returned (.agg cp) ∧ Below w.heap.size w w') := ⟨fun w => by rw [Hch.out, Hcp.out]; exact places_any s x n w Hs.out (by omega)⟩
      have HIX : Keep (∀ k : Nat, k < 4 → ∀ w, (Instr.index 51 (.agg cp) (.int .i64 (k : Int))).run Try.prog w = .ok (.int .i64 (plc s x n k)) w) := ⟨fun k hk w => by rw [Hcp.out]; exact index51 _ k hk w⟩
      go_wp2_with (first | (refine wpList_load_midG (by rfl) 27 (.tmp 18) rfl b (o + t * 32) rfl (encH x) _ hrg hu rfl hiL ?_; rw [hCA]) | (refine wpList_new rfl 27 rfl _ Try.new27 ?_; refine Hid.out ?_))
      refine hid_in ?_
      have H7 := Keep.mk (Blk.new wr 27 (bytesA 32 fun _ => 0))
      have HOa := Keep.mk (HO.out.box (.cells (bytesA 32 fun _ => 0) 27))
      have HBa := Keep.mk (HB.out.alloc HB.out.size (.cells (bytesA 32 fun _ => 0) 27))
      obtain ⟨g7, hg7⟩ : ∃ g, Keep (g = wr.heap.size) := ⟨_, ⟨rfl⟩⟩
      have hge7 : w'.heap.size ≤ g7 := by rw [hg7.out]; exact HB.out.size
      have hne7 := HO.out.lt gb rfl
      rw [← hg7.out] at H7 hne7 ⊢
      have hnb7 : gb ≠ g7 := by omega
      generalize wr.alloc (.cells (bytesA 32 fun _ => 0) 27) = w1 at *
      clear HO HB hrg hne7
      go_wp2_with (first | (refine wpList_store_row rfl 27 (.tmp 7) (.tmp 19) rfl g7 ch rfl rfl 27 (bytesA 32 fun _ => 0) H7.out HIch.out HZch.out HOch.out ?_; refine Hid.out ?_))
      refine hid_in ?_
      have H7b := Keep.mk (H7.out.setRow ch)
      have HOb := Keep.mk (HOa.out.grown (Grown.setRow w1 g7 ch (S := fun k => k = g7) fun _ => rfl) fun k hk e => by simp [Value.ownBlock] at hk; omega)
      have HBb := Keep.mk (below_setRow HBa.out hge7 ch)
      generalize w1.setRow g7 ch = w2 at *
      clear H7 HOa HBa
      go_wp2_with (first | (refine wpList_load_row rfl 27 (.tmp 7) rfl g7 rfl 27 ch (0, 0) (.array 32 5) H7b.out Try.underlying27 rfl HIch.out ?_))
      refine (HC.out _).mono ?_
      rintro e w3 ⟨rfl, hb3⟩
      have HOc := Keep.mk (HOb.out.grown (Grown.below (S := fun _ => False) hb3) fun _ _ h => h)
      have HBc := Keep.mk (HBb.out.trans (hb3.mono HBb.out.size))
      clear hb3 H7b HOb HBb HC hCA hiL hu
      go_wp2_with fail
      go_loopw [25] (fun i wr => ∃ k : Nat, k ≤ 4 ∧ i = .int .i64 k ∧ Own wr (.slice (some ⟨gb, 0, none⟩) n n) (addU l (plc s x n) k) ∧ Below w'.heap.size w' wr) (fun i _ => 4 - (intOf i).toNat)
      case atStart => exact ⟨0, by omega, rfl, HOc.out, HBc.out⟩
      case round =>
        clear HOc HBc
        obtain ⟨k, hk, rfl, hO, hB⟩ := hrel
        by_cases hlk : k < 4
        · have hlk' : (k : Int) < 4 := by omega
          have hix := HIX.out k hlk wr
          have hpr := plc_rng s x n (by omega) k
          obtain ⟨p, hp⟩ : ∃ p : Nat, plc s x n k = (p : Int) := ⟨(plc s x n k).toNat, by omega⟩
          obtain ⟨q, hq⟩ : ∃ q, Keep (q = p / 8) := ⟨_, ⟨rfl⟩⟩
          obtain ⟨r, hr⟩ : ∃ r, Keep (r = p % 8) := ⟨_, ⟨rfl⟩⟩
          have hi8 : (p : Int) / 8 = (q : Int) := by rw [hq.out]; omega
          have hm8 : (p : Int) % 8 = (r : Int) := by rw [hr.out]; omega
          have hqn : q < n := by rw [hq.out]; omega
          have hqn' : (q : Int) < n := by omega
          have hr8 : r < 8 := by rw [hr.out]; omega
          have hp8 := pow8 r hr8
          have hqw : IntKind.i64.wrap (q : Int) = q := by rw [IntKind.wrap_i64]; omega
          have hmt : (p : Int).tmod 8 = (r : Int) := by rw [Int.tmod_eq_emod_of_nonneg (by omega)]; exact hm8
          have hsl : IntKind.u8.wrap (2 ^ r) = 2 ^ r := by rw [IntKind.wrap_u8]; omega
          have hlen : (addU l (plc s x n) k).length = n := by rw [addU_len]; exact hl0.out
          have hnx : Keep (addU l (plc s x n) (k + 1) = (addU l (plc s x n) k).set q (bits .or .u8 ((addU l (plc s x n) k).getD q 0) (2 ^ r))) := ⟨by rw [addU, setB, hp, Int.toNat_natCast, ← hq.out, ← hr.out]⟩
          have cb : wr.drew.cell? ⟨gb, q, none⟩ = some (.int .u8 ((addU l (plc s x n) k).getD q 0)) := (hO.cells q (by rw [hlen]; exact hqn)).1
          have ff : wr.drew.frozen? ⟨gb, q, none⟩ = false := (hO.cells q (by rw [hlen]; exact hqn)).2
          have HOn := Keep.mk ((show Own wr.drew _ _ from hO).set q (bits .or .u8 ((addU l (plc s x n) k).getD q 0) (2 ^ r)))
          rw [← hnx.out] at HOn
          have HBn := Keep.mk ((hB.drew).setCell hgeb (p := ⟨gb, q, none⟩) (.int .u8 (bits .or .u8 ((addU l (plc s x n) k).getD q 0) (2 ^ r))))
          rw [hp] at hix
          clear hO hB hp hpr hlen hnx
          generalize (addU l (plc s x n) k).getD q 0 = z at *
          go_wp2_with fail
          refine wp_region_held_drew (S := fun _ => True) (by kernel_rfl) trivial (fun hHeld => ?_)
          generalize wr.drew = wd at *
          refine wpAnyH_take (i := 0) (oi := ⟨some 28, Op.move (Operand.tmp 5), 35, _, _, none⟩) (v := .slice (some ⟨gb, 0, none⟩) n n) rfl (by kernel_rfl) (by kernel_rfl) (by kernel_rfl) (fun _ _ _ h => h) (Or.inl ⟨by rfl, fun w hS => by go_simp⟩) hHeld ?_
          simp only [Act.put, List.setIfInBounds_toArray, List.set_cons_zero, List.set_cons_succ]
          refine wpAnyH_take (i := 1) (oi := ⟨some 29, Op.move (Operand.tmp 9), 3, _, _, none⟩) (v := .int .i64 (p : Int)) rfl (by kernel_rfl) (by kernel_rfl) (by kernel_rfl) (fun _ _ _ h => h) (Or.inl ⟨by rfl, fun w hS => by go_simp⟩) hHeld ?_
          simp only [Act.put, List.setIfInBounds_toArray, List.set_cons_zero, List.set_cons_succ]
          refine wpAnyH_take (i := 2) (oi := ⟨some 30, Op.binOp BinOp.quo 3 (Operand.tmp 29) (Operand.const (Value.int IntKind.i64 8)) 3, 3, _, _, none⟩) (v := .int .i64 (q : Int)) rfl (by kernel_rfl) (by kernel_rfl) (by kernel_rfl) (fun _ _ _ h => h) (Or.inl ⟨by rfl, fun w hS => by go_simp⟩) hHeld ?_
          simp only [Act.put, List.setIfInBounds_toArray, List.set_cons_zero, List.set_cons_succ]
          refine wpAnyH_take (i := 3) (oi := ⟨some 31, Op.indexAddr 35 (Operand.tmp 28) (Operand.tmp 30), 0, _, _, none⟩) (v := .pointer (some ⟨gb, q, none⟩)) rfl (by kernel_rfl) (by kernel_rfl) (by kernel_rfl) (fun _ _ _ h => h) (Or.inl ⟨by rfl, fun w hS => by go_simp⟩) hHeld ?_
          simp only [Act.put, List.setIfInBounds_toArray, List.set_cons_zero, List.set_cons_succ]
          refine wpAnyH_take (i := 5) (oi := ⟨some 33, Op.move (Operand.tmp 9), 3, _, _, none⟩) (v := .int .i64 (p : Int)) rfl (by kernel_rfl) (by kernel_rfl) (by kernel_rfl) (fun _ _ _ h => h) (Or.inl ⟨by rfl, fun w hS => by go_simp⟩) hHeld ?_
          simp only [Act.put, List.setIfInBounds_toArray, List.set_cons_zero, List.set_cons_succ]
          refine wpAnyH_take (i := 6) (oi := ⟨some 34, Op.binOp BinOp.rem 3 (Operand.tmp 33) (Operand.const (Value.int IntKind.i64 8)) 3, 3, _, _, none⟩) (v := .int .i64 (r : Int)) rfl (by kernel_rfl) (by kernel_rfl) (by kernel_rfl) (fun _ _ _ h => h) (Or.inl ⟨by rfl, fun w hS => by go_simp⟩) hHeld ?_
          simp only [Act.put, List.setIfInBounds_toArray, List.set_cons_zero, List.set_cons_succ]
          refine wpAnyH_take (i := 7) (oi := ⟨some 35, Op.binOp BinOp.shl 5 (Operand.const (Value.int IntKind.u8 1)) (Operand.tmp 34) 3, 5, _, _, none⟩) (v := .int .u8 (2 ^ r)) rfl (by kernel_rfl) (by kernel_rfl) (by kernel_rfl) (fun _ _ _ h => h) (Or.inl ⟨by rfl, fun w hS => by go_simp⟩) hHeld ?_
          simp only [Act.put, List.setIfInBounds_toArray, List.set_cons_zero, List.set_cons_succ]
          refine wpAnyH_ready (rs := [4]) (by kernel_rfl) (by simp) ?_
          refine AllReadyH.cons (o := ⟨some 32, Op.load 5 (Operand.tmp 31), 5, _, _, none⟩) rfl (fun K hK => ?_) (AllReadyH.nil)
          all_goals rw [if_pos (by rfl)]
          refine wp_val (.int .u8 z) (by go_simp) ?_
          refine hK.out _ _ trivial fun hHeld => ?_
          clear hK
          simp only [Act.put, List.setIfInBounds_toArray, List.set_cons_zero, List.set_cons_succ]
          refine wpAnyH_take (i := 8) (oi := ⟨some 36, Op.binOp BinOp.or 5 (Operand.tmp 32) (Operand.tmp 35) 5, 5, _, _, none⟩) (v := .int .u8 (bits .or .u8 z (2 ^ r))) rfl (by kernel_rfl) (by kernel_rfl) (by kernel_rfl) (fun _ _ _ h => h) (Or.inl ⟨by rfl, fun w hS => by go_simp⟩) hHeld ?_
          simp only [Act.put, List.setIfInBounds_toArray, List.set_cons_zero, List.set_cons_succ]
          refine wpAnyH_take (i := 9) (oi := ⟨some 37, Op.indexAddr 35 (Operand.tmp 28) (Operand.tmp 30), 0, _, _, none⟩) (v := .pointer (some ⟨gb, q, none⟩)) rfl (by kernel_rfl) (by kernel_rfl) (by kernel_rfl) (fun _ _ _ h => h) (Or.inl ⟨by rfl, fun w hS => by go_simp⟩) hHeld ?_
          simp only [Act.put, List.setIfInBounds_toArray, List.set_cons_zero, List.set_cons_succ]
          refine wpAnyH_ready (rs := [10]) (by kernel_rfl) (by simp) ?_
          refine AllReadyH.cons (o := ⟨none, Op.store 5 (Operand.tmp 37) (Operand.tmp 36), 0, _, _, none⟩) rfl (fun K hK => ?_) (AllReadyH.nil)
          all_goals rw [if_pos (by rfl)]
          go_simp
          refine hK.out _ _ trivial fun _ => ?_
          clear hK
          refine wpAnyH_done (by kernel_rfl) ?_ _
          generalize wd.setCell ⟨gb, q, none⟩ (.int .u8 (bits .or .u8 z (2 ^ r))) = we at *
          clear cb ff hHeld
          go_wp2
          go_roundw
          case rel => exact ⟨k + 1, by omega, by go_num, HOn.out, HBn.out⟩
          case measure => simp only [intOf]; omega
        · obtain rfl : k = 4 := by omega
          rw [show ((4 : Nat) : Int) = 4 from rfl]
          have HO := Keep.mk (HDn.out ▸ hO)
          have HB := Keep.mk hB
          clear hO hB HDn
          go_wp2
          go_roundw
          case rel => exact ⟨t + 1, by omega, by go_num, HO.out, HB.out⟩
          case measure => simp only [intOf]; omega
    · obtain rfl : t = L.length := by omega
      have HO := Keep.mk (HD.out ▸ hO)
      have HB := Keep.mk hB
      clear hO hB
      go_wp2
      go_ret
      exact ⟨_, rfl, HO.out, ⟨gb, rfl, hgeb⟩, HB.out⟩

end Go.Proofs.Ytfheinghkigocaa
namespace Go.Proofs.Ytfheinghkigocaa
open Go.RowKit
set_option linter.unusedSimpArgs false
set_option linter.unusedVariables false


set_option maxRecDepth 8000 in
set_option maxHeartbeats 4000000 in
theorem rOf_any (s : Int) (L : List Hs) (v : Value) (w : World) (hs : 0 ≤ s ∧ s < 18446744073709551616) (hL : HRow w v L) (hll : L.length ≤ 4398046511104) :
    Calls Try.prog 15 #[.int .u64 s, v] w fun e w' => ∃ v', e = .returned v' ∧ FreshB w v' (digL s L) w' := by
  obtain ⟨a, c, rfl⟩ := hL.form
  have HR := Keep.mk hL
  have Hs := Keep.mk hs
  have HD : Keep (digL s L = digU s (szN L.length) L L.length) := ⟨rfl⟩
  have hn := szN_rng L.length
  have HP := Keep.mk (isP_sz L.length)
  have HSZ := Keep.mk (rsize_any L.length w)
  obtain ⟨n, hnn⟩ : ∃ n, Keep (n = szN L.length) := ⟨_, ⟨rfl⟩⟩
  rw [← hnn.out] at HD hn HSZ HP
  clear hs hL
  have hmk := run_makeB n n (Nat.le_refl _) (by omega) w
  have HB := Keep.mk (below_new w (.cells (bytesA n fun _ => 0) 5))
  have HO := Keep.mk (own_zeros (Blk.new w 5 (bytesA n fun _ => 0)) (by omega))
  go_enter Try.func15, Try.ntmps15
  go_wp2_with (first | (go_at_call 11; refine HSZ.out.mono ?_; rintro e w' ⟨rfl, rfl⟩))
  clear HSZ hmk
  obtain ⟨gb, hgb⟩ : ∃ g, Keep (g = w'.heap.size) := ⟨_, ⟨rfl⟩⟩
  rw [← hgb.out] at HO ⊢
  have hgeb : w'.heap.size ≤ gb := by rw [hgb.out]; exact Nat.le_refl _
  generalize w'.alloc (.cells (bytesA n fun _ => 0) 5) = wa at *
  go_loopw [6] (fun i wr => ∃ t : Nat, t ≤ L.length ∧ i = .int .i64 t ∧ Own wr (.slice (some ⟨gb, 0, none⟩) n n) (digU s n L t) ∧ Below w'.heap.size w' wr) (fun i _ => L.length - (intOf i).toNat)
  case atStart => exact ⟨0, by omega, rfl, HO.out, HB.out⟩
  case round =>
    clear HO HB
    obtain ⟨t, ht, rfl, hO, hB⟩ := hrel
    by_cases hlt : t < L.length
    · have hlt' : (t : Int) < L.length := by omega
      obtain ⟨b, o, rfl, hrg⟩ := hash_at (HR.out.below hB) hlt
      have HDn : Keep (digU s n L (t + 1) = addU (digU s n L t) (plc s (L.getD t default) n) 4) := ⟨rfl⟩
      have hl0 : Keep ((digU s n L t).length = n) := ⟨digU_len _ _ _ _⟩
      obtain ⟨x, hx⟩ : ∃ x, Keep (x = L.getD t default) := ⟨_, ⟨rfl⟩⟩
      rw [← hx.out] at HDn hrg
      obtain ⟨l, hl⟩ : ∃ l, Keep (l = digU s n L t) := ⟨_, ⟨rfl⟩⟩
      rw [← hl.out] at HDn hO hl0
      have HO := Keep.mk hO
      have HB := Keep.mk hB
      clear hO hB
      obtain ⟨ch, Hch⟩ : ∃ ch, Keep (ch = bytesA 32 x.f) := ⟨_, ⟨rfl⟩⟩
      have HIch : Keep ((Try.prog.info? 27).map (·.size) = some ch.size) := ⟨by rw [Hch.out]; exact Try.size27B _⟩
      have HOch : Keep (ch.all (·.oneCell') = true) := ⟨by rw [Hch.out]; exact bytesA_one _ _⟩
      have HZch : Keep ((bytesA 32 fun _ => 0).size = ch.size) := ⟨by rw [Hch.out]; exact bytesA_sizes _ _ _⟩
      have hCA : (encH x).toArray = ch := by rw [Hch.out]; exact encH_arr x
      have hiL : (Try.prog.info? 27).map (·.size) = some (encH x).length := Try.size27L x
      have hu := Try.underlying27
      have HC : Keep (∀ w, Calls Try.prog 12 #[.int .u64 s, .agg ch, .int .i64 (n : Int)] w fun e w' => ∃ v, e = .returned v ∧ NewJ w v (plcL s x n) w') := ⟨fun w => by
        rw [Hch.out]
        have := rPlaces_any s x n w Hs.out
        rw [plL, if_pos HP.out] at this
        exact this⟩
      go_wp2_with (first | (refine wpList_load_midG (by rfl) 27 (.tmp 22) rfl b (o + t * 32) rfl (encH x) _ hrg hu rfl hiL ?_; rw [hCA]))
      refine (HC.out _).mono ?_
      rintro e w3 ⟨vp, rfl, hJ⟩
      obtain ⟨pa, pc, rfl⟩ := hJ.1.sl
      obtain ⟨gp, rfl, -, -, hgp⟩ := hJ.1.at (i := 0) (by rw [plcL_len]; omega)
      have hgeP := hJ.2.1 gp rfl
      have hnbp : gb ≠ gp := by have := HO.out.lt gb rfl; omega
      have HOc := Keep.mk (HO.out.grown (Grown.below (S := fun _ => False) hJ.2.2) fun _ _ h => h)
      have HBc := Keep.mk (HB.out.trans (hJ.2.2.mono HB.out.size))
      have HJ := Keep.mk hJ.1
      rw [plcL_len] at HJ ⊢
      clear hJ HC hCA hiL hu HO HB hrg hgp hgeP
      go_wp2_with fail
      go_loopw [8] (fun i wr => ∃ k : Nat, k ≤ 4 ∧ i = .int .i64 k ∧ Own wr (.slice (some ⟨gb, 0, none⟩) n n) (addU l (plc s x n) k) ∧ OwnJ wr (.slice (some ⟨gp, 0, none⟩) 4 pc) (plcL s x n) ∧ Below w'.heap.size w' wr) (fun i _ => 4 - (intOf i).toNat)
      case atStart => exact ⟨0, by omega, rfl, HOc.out, HJ.out, HBc.out⟩
      case round =>
        clear HOc HBc HJ
        obtain ⟨k, hk, rfl, hO, hJ, hB⟩ := hrel
        by_cases hlk : k < 4
        · have hlk' : (k : Int) < 4 := by omega
          have hpr := plc_rng s x n (by omega) k
          obtain ⟨p, hp⟩ : ∃ p : Nat, plc s x n k = (p : Int) := ⟨(plc s x n k).toNat, by omega⟩
          obtain ⟨q, hq⟩ : ∃ q, Keep (q = p / 8) := ⟨_, ⟨rfl⟩⟩
          obtain ⟨r, hr⟩ : ∃ r, Keep (r = p % 8) := ⟨_, ⟨rfl⟩⟩
          have hi8 : (p : Int) / 8 = (q : Int) := by rw [hq.out]; omega
          have hm8 : (p : Int) % 8 = (r : Int) := by rw [hr.out]; omega
          have hqn : q < n := by rw [hq.out]; omega
          have hqn' : (q : Int) < n := by omega
          have hr8 : r < 8 := by rw [hr.out]; omega
          have hp8 := pow8 r hr8
          have hqw : IntKind.i64.wrap (q : Int) = q := by rw [IntKind.wrap_i64]; omega
          have hmt : (p : Int).tmod 8 = (r : Int) := by rw [Int.tmod_eq_emod_of_nonneg (by omega)]; exact hm8
          have hsl : IntKind.u8.wrap (2 ^ r) = 2 ^ r := by rw [IntKind.wrap_u8]; omega
          have hlen : (addU l (plc s x n) k).length = n := by rw [addU_len]; exact hl0.out
          have hnx : Keep (addU l (plc s x n) (k + 1) = (addU l (plc s x n) k).set q (bits .or .u8 ((addU l (plc s x n) k).getD q 0) (2 ^ r))) := ⟨by rw [addU, setB, hp, Int.toNat_natCast, ← hq.out, ← hr.out]⟩
          have cb : wr.drew.cell? ⟨gb, q, none⟩ = some (.int .u8 ((addU l (plc s x n) k).getD q 0)) := (hO.cells q (by rw [hlen]; exact hqn)).1
          have ff : wr.drew.frozen? ⟨gb, q, none⟩ = false := (hO.cells q (by rw [hlen]; exact hqn)).2
          have HOn := Keep.mk ((show Own wr.drew _ _ from hO).set q (bits .or .u8 ((addU l (plc s x n) k).getD q 0) (2 ^ r)))
          rw [← hnx.out] at HOn
          have HBn := Keep.mk ((hB.drew).setCell hgeb (p := ⟨gb, q, none⟩) (.int .u8 (bits .or .u8 ((addU l (plc s x n) k).getD q 0) (2 ^ r))))
          have HJn := Keep.mk ((show OwnJ wr.drew _ _ from hJ).setNe (g := gb) (by simp [Value.ownBlock]; omega) q (.int .u8 (bits .or .u8 ((addU l (plc s x n) k).getD q 0) (2 ^ r))))
          obtain ⟨_, e1, cp1, _, _⟩ := (show OwnJ wr.drew _ _ from hJ).at (i := k) (by rw [plcL_len]; exact hlk)
          injection e1 with e1
          injection e1 with e1
          subst e1
          rw [plcL_get _ _ _ _ hlk, hp] at cp1
          have hpx : Keep ((wr.drew.setCell ⟨gb, q, none⟩ (.int .u8 (bits .or .u8 ((addU l (plc s x n) k).getD q 0) (2 ^ r)))).cell? ⟨gp, k, none⟩ = some (.int .i64 (p : Int))) := ⟨by
            obtain ⟨_, e1, cq1, _, _⟩ := HJn.out.at (i := k) (by rw [plcL_len]; exact hlk)
            injection e1 with e1
            injection e1 with e1
            subst e1
            rw [cq1, plcL_get _ _ _ _ hlk, hp]⟩
          clear hO hB hp hpr hlen hnx hJ
          generalize (addU l (plc s x n) k).getD q 0 = z at *
          go_wp2_with fail
          refine wp_region_held_drew (S := fun wx => wx.cell? ⟨gp, k, none⟩ = some (.int .i64 (p : Int))) (by kernel_rfl) cp1 (fun hHeld => ?_)
          generalize wr.drew = wd at *
          refine wpAnyH_take (i := 0) (oi := ⟨some 33, Op.move (Operand.tmp 5), 35, _, _, none⟩) (v := .slice (some ⟨gb, 0, none⟩) n n) rfl (by kernel_rfl) (by kernel_rfl) (by kernel_rfl) (fun _ _ _ h => h) (Or.inl ⟨by rfl, fun w hS => by go_simp⟩) hHeld ?_
          simp only [Act.put, List.setIfInBounds_toArray, List.set_cons_zero, List.set_cons_succ]
          refine wpAnyH_take (i := 1) (oi := ⟨some 34, Op.move (Operand.tmp 7), 28, _, _, none⟩) (v := .slice (some ⟨gp, 0, none⟩) 4 pc) rfl (by kernel_rfl) (by kernel_rfl) (by kernel_rfl) (fun _ _ _ h => h) (Or.inl ⟨by rfl, fun w hS => by go_simp⟩) hHeld ?_
          simp only [Act.put, List.setIfInBounds_toArray, List.set_cons_zero, List.set_cons_succ]
          refine wpAnyH_take (i := 2) (oi := ⟨some 35, Op.move (Operand.tmp 8), 3, _, _, none⟩) (v := .int .i64 (k : Int)) rfl (by kernel_rfl) (by kernel_rfl) (by kernel_rfl) (fun _ _ _ h => h) (Or.inl ⟨by rfl, fun w hS => by go_simp⟩) hHeld ?_
          simp only [Act.put, List.setIfInBounds_toArray, List.set_cons_zero, List.set_cons_succ]
          refine wpAnyH_take (i := 3) (oi := ⟨some 36, Op.indexAddr 28 (Operand.tmp 34) (Operand.tmp 35), 0, _, _, none⟩) (v := .pointer (some ⟨gp, k, none⟩)) rfl (by kernel_rfl) (by kernel_rfl) (by kernel_rfl) (fun _ _ _ h => h) (Or.inl ⟨by rfl, fun w hS => by go_simp⟩) hHeld ?_
          simp only [Act.put, List.setIfInBounds_toArray, List.set_cons_zero, List.set_cons_succ]
          refine wpAnyH_take (i := 4) (oi := ⟨some 37, Op.load 3 (Operand.tmp 36), 3, _, _, none⟩) (v := .int .i64 (p : Int)) rfl (by kernel_rfl) (by kernel_rfl) (by kernel_rfl) (fun _ _ _ h => h) (Or.inl ⟨by rfl, fun w hS => by have h1 := hS; go_simp⟩) hHeld ?_
          simp only [Act.put, List.setIfInBounds_toArray, List.set_cons_zero, List.set_cons_succ]
          refine wpAnyH_take (i := 5) (oi := ⟨some 38, Op.binOp BinOp.quo 3 (Operand.tmp 37) (Operand.const (Value.int IntKind.i64 8)) 3, 3, _, _, none⟩) (v := .int .i64 (q : Int)) rfl (by kernel_rfl) (by kernel_rfl) (by kernel_rfl) (fun _ _ _ h => h) (Or.inl ⟨by rfl, fun w hS => by go_simp⟩) hHeld ?_
          simp only [Act.put, List.setIfInBounds_toArray, List.set_cons_zero, List.set_cons_succ]
          refine wpAnyH_take (i := 6) (oi := ⟨some 39, Op.indexAddr 35 (Operand.tmp 33) (Operand.tmp 38), 0, _, _, none⟩) (v := .pointer (some ⟨gb, q, none⟩)) rfl (by kernel_rfl) (by kernel_rfl) (by kernel_rfl) (fun _ _ _ h => h) (Or.inl ⟨by rfl, fun w hS => by go_simp⟩) hHeld ?_
          simp only [Act.put, List.setIfInBounds_toArray, List.set_cons_zero, List.set_cons_succ]
          refine wpAnyH_take (i := 8) (oi := ⟨some 41, Op.move (Operand.tmp 7), 28, _, _, none⟩) (v := .slice (some ⟨gp, 0, none⟩) 4 pc) rfl (by kernel_rfl) (by kernel_rfl) (by kernel_rfl) (fun _ _ _ h => h) (Or.inl ⟨by rfl, fun w hS => by go_simp⟩) hHeld ?_
          simp only [Act.put, List.setIfInBounds_toArray, List.set_cons_zero, List.set_cons_succ]
          refine wpAnyH_take (i := 9) (oi := ⟨some 42, Op.move (Operand.tmp 8), 3, _, _, none⟩) (v := .int .i64 (k : Int)) rfl (by kernel_rfl) (by kernel_rfl) (by kernel_rfl) (fun _ _ _ h => h) (Or.inl ⟨by rfl, fun w hS => by go_simp⟩) hHeld ?_
          simp only [Act.put, List.setIfInBounds_toArray, List.set_cons_zero, List.set_cons_succ]
          refine wpAnyH_take (i := 10) (oi := ⟨some 43, Op.indexAddr 28 (Operand.tmp 41) (Operand.tmp 42), 0, _, _, none⟩) (v := .pointer (some ⟨gp, k, none⟩)) rfl (by kernel_rfl) (by kernel_rfl) (by kernel_rfl) (fun _ _ _ h => h) (Or.inl ⟨by rfl, fun w hS => by go_simp⟩) hHeld ?_
          simp only [Act.put, List.setIfInBounds_toArray, List.set_cons_zero, List.set_cons_succ]
          refine wpAnyH_take (i := 11) (oi := ⟨some 44, Op.load 3 (Operand.tmp 43), 3, _, _, none⟩) (v := .int .i64 (p : Int)) rfl (by kernel_rfl) (by kernel_rfl) (by kernel_rfl) (fun _ _ _ h => h) (Or.inl ⟨by rfl, fun w hS => by have h1 := hS; go_simp⟩) hHeld ?_
          simp only [Act.put, List.setIfInBounds_toArray, List.set_cons_zero, List.set_cons_succ]
          refine wpAnyH_take (i := 12) (oi := ⟨some 45, Op.binOp BinOp.rem 3 (Operand.tmp 44) (Operand.const (Value.int IntKind.i64 8)) 3, 3, _, _, none⟩) (v := .int .i64 (r : Int)) rfl (by kernel_rfl) (by kernel_rfl) (by kernel_rfl) (fun _ _ _ h => h) (Or.inl ⟨by rfl, fun w hS => by go_simp⟩) hHeld ?_
          simp only [Act.put, List.setIfInBounds_toArray, List.set_cons_zero, List.set_cons_succ]
          refine wpAnyH_take (i := 13) (oi := ⟨some 46, Op.binOp BinOp.shl 5 (Operand.const (Value.int IntKind.u8 1)) (Operand.tmp 45) 3, 5, _, _, none⟩) (v := .int .u8 (2 ^ r)) rfl (by kernel_rfl) (by kernel_rfl) (by kernel_rfl) (fun _ _ _ h => h) (Or.inl ⟨by rfl, fun w hS => by go_simp⟩) hHeld ?_
          simp only [Act.put, List.setIfInBounds_toArray, List.set_cons_zero, List.set_cons_succ]
          refine wpAnyH_ready (rs := [7]) (by kernel_rfl) (by simp) ?_
          refine AllReadyH.cons (o := ⟨some 40, Op.load 5 (Operand.tmp 39), 5, _, _, none⟩) rfl (fun K hK => ?_) (AllReadyH.nil)
          all_goals rw [if_pos (by rfl)]
          refine wp_val (.int .u8 z) (by go_simp) ?_
          refine hK.out _ _ hHeld fun hHeld => ?_
          clear hK
          simp only [Act.put, List.setIfInBounds_toArray, List.set_cons_zero, List.set_cons_succ]
          refine wpAnyH_take (i := 14) (oi := ⟨some 47, Op.binOp BinOp.or 5 (Operand.tmp 40) (Operand.tmp 46) 5, 5, _, _, none⟩) (v := .int .u8 (bits .or .u8 z (2 ^ r))) rfl (by kernel_rfl) (by kernel_rfl) (by kernel_rfl) (fun _ _ _ h => h) (Or.inl ⟨by rfl, fun w hS => by go_simp⟩) hHeld ?_
          simp only [Act.put, List.setIfInBounds_toArray, List.set_cons_zero, List.set_cons_succ]
          refine wpAnyH_take (i := 15) (oi := ⟨some 48, Op.indexAddr 35 (Operand.tmp 33) (Operand.tmp 38), 0, _, _, none⟩) (v := .pointer (some ⟨gb, q, none⟩)) rfl (by kernel_rfl) (by kernel_rfl) (by kernel_rfl) (fun _ _ _ h => h) (Or.inl ⟨by rfl, fun w hS => by go_simp⟩) hHeld ?_
          simp only [Act.put, List.setIfInBounds_toArray, List.set_cons_zero, List.set_cons_succ]
          refine wpAnyH_ready (rs := [16]) (by kernel_rfl) (by simp) ?_
          refine AllReadyH.cons (o := ⟨none, Op.store 5 (Operand.tmp 48) (Operand.tmp 47), 0, _, _, none⟩) rfl (fun K hK => ?_) (AllReadyH.nil)
          all_goals rw [if_pos (by rfl)]
          go_simp
          refine hK.out _ _ hpx.out fun _ => ?_
          clear hK
          refine wpAnyH_done (by kernel_rfl) ?_ _
          generalize wd.setCell ⟨gb, q, none⟩ (.int .u8 (bits .or .u8 z (2 ^ r))) = we at *
          clear cb ff hHeld hpx cp1
          go_wp2
          go_roundw
          case rel => exact ⟨k + 1, by omega, by go_num, HOn.out, HJn.out, HBn.out⟩
          case measure => simp only [intOf]; omega
        · obtain rfl : k = 4 := by omega
          rw [show ((4 : Nat) : Int) = 4 from rfl]
          have HO := Keep.mk (HDn.out ▸ hO)
          have HB := Keep.mk hB
          clear hO hB HDn hJ
          go_wp2
          go_roundw
          case rel => exact ⟨t + 1, by omega, by go_num, HO.out, HB.out⟩
          case measure => simp only [intOf]; omega
    · obtain rfl : t = L.length := by omega
      have HO := Keep.mk (HD.out ▸ hO)
      have HB := Keep.mk hB
      clear hO hB
      go_wp2
      go_ret
      exact ⟨_, rfl, HO.out, ⟨gb, rfl, hgeb⟩, HB.out⟩

end Go.Proofs.Ytfheinghkigocaa
namespace Go.Proofs.Ytfheinghkigocaa
open Go.RowKit
set_option linter.unusedSimpArgs false
set_option linter.unusedVariables false

theorem Try.in16 (w : World) (vs : Array Value) : (callFunc 16 vs).run Try.prog w = .ok (.enter 16 vs) w := by kernel_rfl

theorem right_any (v : Value) (l : List Int) (w : World) (h : RowAt w v l) : Calls Try.prog 20 #[v] w fun e w' => e = .returned (.bool (isP l.length)) ∧ w' = w := by
  obtain ⟨a, c, rfl⟩ := row_form h
  have HC := Keep.mk (isSize_any l.length w)
  clear h
  go_enter Try.func20, Try.ntmps20
  go_wp2_with (go_at_call 31; refine HC.out.mono ?_; rintro e w' ⟨rfl, rfl⟩)
  go_ret
  exact ⟨rfl, rfl⟩
theorem rright_any (v : Value) (l : List Int) (w : World) (h : RowAt w v l) : Calls Try.prog 24 #[v] w fun e w' => e = .returned (.bool (isP l.length)) ∧ w' = w := by
  obtain ⟨a, c, rfl⟩ := row_form h
  have HC := Keep.mk (power_any l.length w)
  clear h
  go_enter Try.func24, Try.ntmps24
  go_wp2_with (go_at_call 29; refine HC.out.mono ?_; rintro e w' ⟨rfl, rfl⟩)
  go_ret
  exact ⟨rfl, rfl⟩
theorem and1 (y : Int) (h : 0 ≤ y ∧ y < 256) : bits .and .u8 y 1 = y % 2 := by
  have h2 : ∀ y : Fin 256, bits .and .u8 (y.val : Int) 1 = (y.val : Int) % 2 := by decide +kernel
  have := h2 ⟨y.toNat, by omega⟩
  simpa [Int.toNat_of_nonneg h.1] using this
/-- Are all bits of a hash 1? -/
def hasB (s : Int) (l : List Int) (x : Hs) : Bool := (List.range 4).all fun i => btB l (plc s x l.length i).toNat
theorem hasB_no {s : Int} {l : List Int} {x : Hs} {i : Nat} (hi : i < 4) (h : btB l (plc s x l.length i).toNat = false) : hasB s l x = false := by
  rw [hasB, List.all_eq_false]
  exact ⟨i, by simpa using hi, by simp [h]⟩
theorem hasB_yes {s : Int} {l : List Int} {x : Hs} (h : ∀ i, i < 4 → btB l (plc s x l.length i).toNat = true) : hasB s l x = true := by
  rw [hasB, List.all_eq_true]
  exact fun i hi => h i (by simpa using hi)
theorem bt_and (l : List Int) (hb : Byts l) (p q r : Nat) (hq : q = p / 8) (hr : r = p % 8) (z : Int) (hz : l.getD q 0 = z) : 0 ≤ z / 2 ^ r ∧ (bits .and .u8 (z / 2 ^ r) 1 == 0) = !btB l p := by
  subst hq hr hz
  have hby := hb.getD (p / 8)
  have hp := pow8 (p % 8) (by omega)
  have hpp : (0 : Int) < 2 ^ (p % 8) := Int.pow_pos (by omega)
  unfold btB
  generalize l.getD (p / 8) 0 = z at *
  have h0 : 0 ≤ z / 2 ^ (p % 8) := Int.ediv_nonneg hby.1 (by omega)
  have h1 : z / 2 ^ (p % 8) ≤ z := Int.ediv_le_self _ hby.1
  refine ⟨h0, ?_⟩
  generalize z / 2 ^ (p % 8) = y at *
  rw [and1 y (by omega)]
  rcases Int.emod_two_eq y with h | h <;> simp [h]
def HasPost (s : Int) (l : List Int) (x : Hs) (w : World) (e : Ending) (w' : World) : Prop :=
  e = .returned (.tuple #[.bool (isP l.length && hasB s l x), .int .i64 (if isP l.length = true then 0 else 60)]) ∧ Below w.heap.size w w'

set_option maxRecDepth 8000 in
set_option maxHeartbeats 4000000 in
theorem has_any (s : Int) (v : Value) (l : List Int) (x : Hs) (w : World) (hs : 0 ≤ s ∧ s < 18446744073709551616) (hr : RowAt w v l) (hb : Byts l) :
    Calls Try.prog 22 #[.int .u64 s, v, .agg (bytesA 32 x.f)] w (HasPost s l x w) := by
  unfold HasPost
  obtain ⟨ch, Hch⟩ : ∃ ch, Keep (ch = bytesA 32 x.f) := ⟨_, ⟨rfl⟩⟩
  have HIch : Keep ((Try.prog.info? 27).map (·.size) = some ch.size) := ⟨by rw [Hch.out]; exact Try.size27B _⟩
  have HOch : Keep (ch.all (·.oneCell') = true) := ⟨by rw [Hch.out]; exact bytesA_one _ _⟩
  rw [← Hch.out]
  obtain ⟨a, c, rfl⟩ := row_form hr
  have HRa := Keep.mk (hr.below (below_new w (.cells ch 27)))
  have HB := Keep.mk (below_new w (.cells ch 27))
  have H5 := Keep.mk (Blk.new w 27 ch)
  obtain ⟨g5, hg5⟩ : ∃ g, Keep (g = w.heap.size) := ⟨_, ⟨rfl⟩⟩
  have HRT := Keep.mk (right_any _ l _ HRa.out)
  have HN : Keep (isP l.length = true → (8 : Int) ≤ (l.length : Int) ∧ (l.length : Int) ≤ 8192) := ⟨isP_rng⟩
  have Hs := Keep.mk hs
  have Hb := Keep.mk hb
  clear hs hr hb
  obtain ⟨b, hbb⟩ : ∃ b, b = isP l.length := ⟨_, rfl⟩
  rw [← hbb] at HRT HN ⊢
  clear hbb
  cases b
  · go_enter Try.func22, Try.ntmps22
    go_wp2_with (first | (refine wpList_boxA rfl 27 (.tmp 2) rfl ch rfl ?_; refine Hid.out ?_))
    refine hid_in ?_
    rw [← hg5.out]
    generalize w.alloc (.cells ch 27) = wa at *
    go_wp2_with fail
    refine HRT.out.mono ?_
    rintro e w' ⟨rfl, rfl⟩
    go_wp2
    go_ret2
    exact ⟨rfl, HB.out⟩
  have HNN := Keep.mk (HN.out rfl)
  clear HN
  obtain ⟨cp, Hcp⟩ : ∃ cp, Keep (cp = intA (plc s x l.length)) := ⟨_, ⟨rfl⟩⟩
  have HC : Keep (∀ w, Calls Try.prog 32 #[.int .u64 s, .agg ch, .int .i64 (l.length : Int)] w fun e w' => e = .returned (.agg cp) ∧ Below w.heap.size w w') := ⟨fun w => by rw [Hch.out, Hcp.out]; exact places_any s x l.length w Hs.out HNN.out⟩
  have HIX : Keep (∀ k : Nat, k < 4 → ∀ w, (Instr.index 51 (.agg cp) (.int .i64 (k : Int))).run Try.prog w = .ok (.int .i64 (plc s x l.length k)) w) := ⟨fun k hk w => by rw [Hcp.out]; exact index51 _ k hk w⟩
  go_enter Try.func22, Try.ntmps22
  go_wp2_with (first | (refine wpList_boxA rfl 27 (.tmp 2) rfl ch rfl ?_; refine Hid.out ?_))
  refine hid_in ?_
  rw [← hg5.out] at H5 ⊢
  generalize w.alloc (.cells ch 27) = wa at *
  go_wp2_with fail
  refine HRT.out.mono ?_
  rintro e w' ⟨rfl, rfl⟩
  clear HRT
  go_wp2_with (first | (refine wpList_load_row rfl 27 (.tmp 5) rfl g5 rfl 27 ch (0, 0) (.array 32 5) H5.out Try.underlying27 rfl HIch.out ?_))
  refine (HC.out _).mono ?_
  rintro e wb ⟨rfl, hbb⟩
  have HBb := Keep.mk (HB.out.trans (hbb.mono HB.out.size))
  have HRb := Keep.mk (HRa.out.below hbb)
  clear hbb HB HRa HC H5
  go_wp2_with fail
  go_loop [18] (fun i => ∃ k : Nat, k ≤ 4 ∧ i = .int .i64 k ∧ ∀ i, i < k → btB l (plc s x l.length i).toNat = true) (fun i => 4 - (intOf i).toNat)
  case atStart => exact ⟨0, by omega, rfl, fun i hi => by omega⟩
  case round =>
    obtain ⟨k, hk, rfl, hall⟩ := hrel
    by_cases hlk : k < 4
    · have hlk' : (k : Int) < 4 := by omega
      have hix := HIX.out k hlk wb
      have hn := HNN.out
      have hpr := plc_rng s x l.length hn.1 k
      obtain ⟨p, hp⟩ : ∃ p : Nat, plc s x l.length k = (p : Int) := ⟨(plc s x l.length k).toNat, by omega⟩
      obtain ⟨q, hq⟩ : ∃ q, Keep (q = p / 8) := ⟨_, ⟨rfl⟩⟩
      obtain ⟨r, hr⟩ : ∃ r, Keep (r = p % 8) := ⟨_, ⟨rfl⟩⟩
      have hi8 : (p : Int) / 8 = (q : Int) := by rw [hq.out]; omega
      have hm8 : (p : Int) % 8 = (r : Int) := by rw [hr.out]; omega
      have hqn : q < l.length := by rw [hq.out]; omega
      have hqn' : (q : Int) < l.length := by omega
      have hqw : IntKind.i64.wrap (q : Int) = q := by rw [IntKind.wrap_i64]; omega
      have hmt : (p : Int).tmod 8 = (r : Int) := by rw [Int.tmod_eq_emod_of_nonneg (by omega)]; exact hm8
      have hr8 : r < 8 := by rw [hr.out]; omega
      obtain ⟨bb, oo, rfl, hc⟩ := HRb.out.at' hqn
      obtain ⟨z, hz⟩ : ∃ z, l.getD q 0 = z := ⟨_, rfl⟩
      have ha := bt_and l Hb.out p q r hq.out hr.out z hz
      have hno : Keep (btB l p = false → hasB s l x = false) := ⟨fun h => hasB_no hlk (by rw [hp, Int.toNat_natCast]; exact h)⟩
      have hyes : Keep (btB l p = true → ∀ i, i < k + 1 → btB l (plc s x l.length i).toNat = true) := ⟨fun h i hi => by
        by_cases hik : i = k
        · subst hik; rw [hp, Int.toNat_natCast]; exact h
        · exact hall i (by omega)⟩
      rw [hz] at hc
      rw [hp] at hix
      clear hp hpr hz hall
      obtain ⟨y, hy⟩ : ∃ y, z / 2 ^ r = y := ⟨_, rfl⟩
      rw [hy] at ha
      have ha0 := ha.1
      have ha1 := ha.2
      clear ha
      cases hbt : btB l p
      · rw [hbt] at ha1 hno
        have HN := Keep.mk (hno.out rfl)
        clear hyes hno hbt
        have ha2 : bits .and .u8 y 1 = 0 := by simpa using ha1
        clear ha1
        go_wp2
        go_ret2
        exact ⟨by rw [HN.out]; rfl, HBb.out⟩
      · rw [hbt] at ha1 hyes
        have HY := Keep.mk (hyes.out rfl)
        clear hyes hno hbt
        have ha2 : bits .and .u8 y 1 ≠ 0 := by simpa using ha1
        clear ha1
        go_wp2
        refine ⟨⟨k + 1, by omega, by go_num, HY.out⟩, by simp only [intOf]; omega⟩
    · obtain rfl : k = 4 := by omega
      rw [show ((4 : Nat) : Int) = 4 from rfl]
      have HY := Keep.mk (hasB_yes hall)
      clear hall
      go_wp2
      go_ret2
      exact ⟨by rw [HY.out]; rfl, HBb.out⟩

set_option maxRecDepth 8000 in
set_option maxHeartbeats 4000000 in
theorem rhas_any (s : Int) (v : Value) (l : List Int) (x : Hs) (w : World) (hs : 0 ≤ s ∧ s < 18446744073709551616) (hr : RowAt w v l) (hb : Byts l) :
    Calls Try.prog 23 #[.int .u64 s, v, .agg (bytesA 32 x.f)] w (HasPost s l x w) := by
  unfold HasPost
  obtain ⟨ch, Hch⟩ : ∃ ch, Keep (ch = bytesA 32 x.f) := ⟨_, ⟨rfl⟩⟩
  have HIch : Keep ((Try.prog.info? 27).map (·.size) = some ch.size) := ⟨by rw [Hch.out]; exact Try.size27B _⟩
  have HOch : Keep (ch.all (·.oneCell') = true) := ⟨by rw [Hch.out]; exact bytesA_one _ _⟩
  rw [← Hch.out]
  obtain ⟨a, c, rfl⟩ := row_form hr
  have HRa := Keep.mk (hr.below (below_new w (.cells ch 27)))
  have HB := Keep.mk (below_new w (.cells ch 27))
  have H5 := Keep.mk (Blk.new w 27 ch)
  obtain ⟨g5, hg5⟩ : ∃ g, Keep (g = w.heap.size) := ⟨_, ⟨rfl⟩⟩
  have HRT : Keep (∀ w, Calls Try.prog 29 #[.int .i64 (l.length : Int)] w fun e w' => e = .returned (.bool (isP l.length)) ∧ w' = w) := ⟨power_any _⟩
  have HN : Keep (isP l.length = true → (8 : Int) ≤ (l.length : Int) ∧ (l.length : Int) ≤ 8192) := ⟨isP_rng⟩
  have HPL : Keep (isP l.length = true → plL s x l.length = plcL s x l.length) := ⟨fun h => by rw [plL, if_pos h]⟩
  have Hs := Keep.mk hs
  have Hb := Keep.mk hb
  clear hs hr hb
  obtain ⟨b, hbb⟩ : ∃ b, b = isP l.length := ⟨_, rfl⟩
  rw [← hbb] at HRT HN HPL ⊢
  clear hbb
  cases b
  · go_enter Try.func23, Try.ntmps23
    go_wp2_with (first | (refine wpList_boxA rfl 27 (.tmp 2) rfl ch rfl ?_; refine Hid.out ?_))
    refine hid_in ?_
    rw [← hg5.out]
    generalize w.alloc (.cells ch 27) = wa at *
    go_wp2_with fail
    refine (HRT.out _).mono ?_
    rintro e w' ⟨rfl, rfl⟩
    go_wp2
    go_ret2
    exact ⟨rfl, HB.out⟩
  have HNN := Keep.mk (HN.out rfl)
  have HC : Keep (∀ w, Calls Try.prog 12 #[.int .u64 s, .agg ch, .int .i64 (l.length : Int)] w fun e w' => ∃ v, e = .returned v ∧ NewJ w v (plcL s x l.length) w') := ⟨fun w => by
    rw [Hch.out, ← HPL.out rfl]
    exact rPlaces_any s x l.length w Hs.out⟩
  clear HN HPL
  go_enter Try.func23, Try.ntmps23
  go_wp2_with (first | (refine wpList_boxA rfl 27 (.tmp 2) rfl ch rfl ?_; refine Hid.out ?_))
  refine hid_in ?_
  rw [← hg5.out] at H5 ⊢
  generalize w.alloc (.cells ch 27) = wa at *
  go_wp2_with fail
  refine (HRT.out _).mono ?_
  rintro e w' ⟨rfl, rfl⟩
  clear HRT
  go_wp2_with (first | (refine wpList_load_row rfl 27 (.tmp 5) rfl g5 rfl 27 ch (0, 0) (.array 32 5) H5.out Try.underlying27 rfl HIch.out ?_))
  refine (HC.out _).mono ?_
  rintro e wb ⟨vp, rfl, hJ⟩
  obtain ⟨pa, pc, rfl⟩ := hJ.1.sl
  have HJ := Keep.mk hJ.1
  have HBb := Keep.mk (HB.out.trans (hJ.2.2.mono HB.out.size))
  have HRb := Keep.mk (HRa.out.below hJ.2.2)
  rw [plcL_len] at HJ ⊢
  clear hJ HB HRa HC H5
  go_wp2_with fail
  go_loop [10] (fun i => ∃ k : Nat, k ≤ 4 ∧ i = .int .i64 k ∧ ∀ i, i < k → btB l (plc s x l.length i).toNat = true) (fun i => 4 - (intOf i).toNat)
  case atStart => exact ⟨0, by omega, rfl, fun i hi => by omega⟩
  case round =>
    obtain ⟨k, hk, rfl, hall⟩ := hrel
    by_cases hlk : k < 4
    · have hlk' : (k : Int) < 4 := by omega
      have hn := HNN.out
      have hpr := plc_rng s x l.length hn.1 k
      obtain ⟨p, hp⟩ : ∃ p : Nat, plc s x l.length k = (p : Int) := ⟨(plc s x l.length k).toNat, by omega⟩
      obtain ⟨gp, rfl, hc, -, -⟩ := HJ.out.at (i := k) (by rw [plcL_len]; exact hlk)
      rw [plcL_get _ _ _ _ hlk, hp] at hc
      have HBT := Keep.mk (bit_any _ l wb HRb.out Hb.out p (by omega) (by omega))
      have hno : Keep (btB l p = false → hasB s l x = false) := ⟨fun h => hasB_no hlk (by rw [hp, Int.toNat_natCast]; exact h)⟩
      have hyes : Keep (btB l p = true → ∀ i, i < k + 1 → btB l (plc s x l.length i).toNat = true) := ⟨fun h i hi => by
        by_cases hik : i = k
        · subst hik; rw [hp, Int.toNat_natCast]; exact h
        · exact hall i (by omega)⟩
      clear hp hpr hall
      obtain ⟨bq, hbq⟩ : ∃ bq, bq = btB l p := ⟨_, rfl⟩
      rw [← hbq] at HBT hno hyes
      clear hbq
      cases bq
      · have HN := Keep.mk (hno.out rfl)
        clear hyes hno
        go_wp2_with (go_at_call 34; refine HBT.out.mono ?_; rintro e w' ⟨rfl, rfl⟩)
        go_ret2
        exact ⟨by rw [HN.out]; rfl, HBb.out⟩
      · have HY := Keep.mk (hyes.out rfl)
        clear hyes hno
        go_wp2_with (go_at_call 34; refine HBT.out.mono ?_; rintro e w' ⟨rfl, rfl⟩)
        refine ⟨⟨k + 1, by omega, by go_num, HY.out⟩, by simp only [intOf]; omega⟩
    · obtain rfl : k = 4 := by omega
      rw [show ((4 : Nat) : Int) = 4 from rfl]
      have HY := Keep.mk (hasB_yes hall)
      clear hall
      go_wp2
      go_ret2
      exact ⟨by rw [HY.out]; rfl, HBb.out⟩

end Go.Proofs.Ytfheinghkigocaa
namespace Go.Proofs.Ytfheinghkigocaa
open Go.RowKit
set_option linter.unusedSimpArgs false
set_option linter.unusedVariables false

theorem Try.bs35 (c : Int) (w : World) : (Instr.buildSlice 35 1 #[(0, .int .u8 c)]).run Try.prog w = .ok (.slice (some ⟨w.heap.size, 0, none⟩) 1 1) (w.alloc (.cells #[.int .u8 c] 5)) := by kernel_rfl
/-- What is in one of two, or both. -/
def orL (l m : List Int) : List Int := hl l.length fun i => bits .or .u8 (l.getD i 0) (m.getD i 0)
theorem orL_len (l m : List Int) : (orL l m).length = l.length := hl_len _ _
def okJ (l m : List Int) : Bool := isP l.length && (l.length == m.length)
def joinL (l m : List Int) : List Int := if okJ l m = true then orL l m else []
theorem hl_set (n : Nat) (f : Nat → Int) (t : Nat) (c : Int) : (hl n f).set t c = hl n (upd f t c) := by
  apply List.ext_getElem?
  intro i
  rw [List.getElem?_set]
  by_cases h : t = i
  · subst h
    by_cases hi : t < n <;> simp [hl, upd, hi]
  · by_cases hi : i < n <;> simp [hl, upd, hi, h, Ne.symm h]
theorem hl_congr {n : Nat} {f g : Nat → Int} (h : ∀ i, i < n → f i = g i) : hl n f = hl n g := by
  unfold hl
  exact List.map_congr_left fun i hi => h i (List.mem_range.1 hi)
theorem hl_zeros (n : Nat) (f : Nat → Int) (h : ∀ i, f i = 0) : List.replicate n 0 = hl n f := by
  apply List.ext_getElem?
  intro i
  by_cases hi : i < n <;> simp [hl, hi, h]
def NewB (w : World) (v : Value) (l : List Int) (w' : World) : Prop := Own w' v l ∧ (∀ k, v.ownBlock = some k → w.heap.size ≤ k) ∧ Below w.heap.size w w'
theorem FreshB.new {w w' : World} {v : Value} {l : List Int} (h : FreshB w v l w') : NewB w v l w' := ⟨h.1, fun k hk => by
  obtain ⟨k', h1, h2⟩ := h.2.1
  rw [h1] at hk
  injection hk with hk
  omega, h.2.2⟩
def JoinPost (l m : List Int) (w : World) (e : Ending) (w' : World) : Prop :=
  ∃ v', e = .returned (.tuple #[v', .int .i64 (if okJ l m = true then 0 else 60)]) ∧ NewB w v' (joinL l m) w'

set_option maxRecDepth 8000 in
set_option maxHeartbeats 4000000 in
theorem join_any (va vb : Value) (l m : List Int) (w : World) (ha : RowAt w va l) (hb : RowAt w vb m) (hm : m.length ≤ 140737488355328) :
    Calls Try.prog 28 #[va, vb] w (JoinPost l m w) := by
  unfold JoinPost
  have HRa := Keep.mk ha
  have HRb := Keep.mk hb
  obtain ⟨aa, ac, rfl⟩ := row_form ha
  obtain ⟨ba, bc, rfl⟩ := row_form hb
  have HN : Keep (isP l.length = true → (8 : Int) ≤ (l.length : Int) ∧ (l.length : Int) ≤ 8192) := ⟨isP_rng⟩
  have HOK : Keep (okJ l m = (isP l.length && (l.length == m.length))) := ⟨rfl⟩
  have HJL : Keep (joinL l m = if okJ l m = true then orL l m else []) := ⟨rfl⟩
  have HRT := Keep.mk (right_any _ l w ha)
  clear ha hb
  obtain ⟨b, hbb⟩ : ∃ b, b = isP l.length := ⟨_, rfl⟩
  rw [← hbb] at HRT HN HOK
  clear hbb
  cases b
  · have hok : okJ l m = false := by rw [HOK.out]; simp
    rw [hok] at HJL ⊢
    clear hok HOK
    go_enter Try.func28, Try.ntmps28
    go_wp2_with (go_at_call 20; refine HRT.out.mono ?_; rintro e w' ⟨rfl, rfl⟩)
    go_ret2
    exact ⟨_, rfl, by rw [HJL.out]; exact own_nil _, fun k hk => by simp [Value.ownBlock] at hk, Below.refl _ _⟩
  have HNN := Keep.mk (HN.out rfl)
  clear HN
  by_cases hlm : l.length = m.length
  · have hok : okJ l m = true := by rw [HOK.out, hlm]; simp
    rw [hok] at HJL ⊢
    clear hok HOK
    rw [if_pos rfl] at HJL
    rw [← hlm] at HRb hm ⊢
    have HLM := Keep.mk hlm
    clear hlm
    have hn := HNN.out
    have hmk := run_makeB l.length l.length (Nat.le_refl _) (by omega) w
    have HB := Keep.mk (below_new w (.cells (bytesA l.length fun _ => 0) 5))
    have HO := Keep.mk (own_zeros (Blk.new w 5 (bytesA l.length fun _ => 0)) (by omega))
    go_enter Try.func28, Try.ntmps28
    go_wp2_with (go_at_call 20; refine HRT.out.mono ?_; rintro e w' ⟨rfl, rfl⟩)
    clear HRT hmk
    obtain ⟨gb, hgb⟩ : ∃ g, Keep (g = w'.heap.size) := ⟨_, ⟨rfl⟩⟩
    rw [← hgb.out] at HO ⊢
    have hgeb : w'.heap.size ≤ gb := by rw [hgb.out]; exact Nat.le_refl _
    generalize w'.alloc (.cells (bytesA l.length fun _ => 0) 5) = wa at *
    obtain ⟨f, hf⟩ : ∃ f : Nat → Int, Keep (f = fun i => bits .or .u8 (l.getD i 0) (m.getD i 0)) := ⟨_, ⟨rfl⟩⟩
    go_loopw [23] (fun i wr => ∃ t : Nat, t ≤ l.length ∧ i = .int .i64 t ∧ Own wr (.slice (some ⟨gb, 0, none⟩) l.length l.length) (hl l.length fun i => if i < t then f i else 0) ∧ Below w'.heap.size w' wr) (fun i _ => l.length - (intOf i).toNat)
    case atStart => exact ⟨0, by omega, rfl, (hl_zeros l.length (fun i => if i < 0 then f i else 0) fun i => by simp) ▸ HO.out, HB.out⟩
    case round =>
      clear HO HB
      obtain ⟨t, ht, rfl, hO, hB⟩ := hrel
      by_cases hlt : t < l.length
      · have hlt' : (t : Int) < l.length := by omega
        obtain ⟨b1, o1, rfl, ca0⟩ := HRa.out.at' hlt
        obtain ⟨b2, o2, rfl, cb0⟩ := HRb.out.at' (i := t) (by rw [← HLM.out]; exact hlt)
        have hl1 := cell_lt ca0
        have hl2 := cell_lt cb0
        have ca : wr.drew.cell? ⟨b1, o1 + t, none⟩ = some (.int .u8 (l.getD t 0)) := by rw [hB.drew.cell (p := ⟨b1, o1 + t, none⟩) hl1]; exact ca0
        have cb : wr.drew.cell? ⟨b2, o2 + t, none⟩ = some (.int .u8 (m.getD t 0)) := by rw [hB.drew.cell (p := ⟨b2, o2 + t, none⟩) hl2]; exact cb0
        have hft : f t = bits .or .u8 (l.getD t 0) (m.getD t 0) := by rw [hf.out]
        have hoc := hO.cells t (by rw [hl_len]; exact hlt)
        obtain ⟨z0, hz0⟩ : ∃ z0, (hl l.length fun i => if i < t then f i else 0).getD t 0 = z0 := ⟨_, rfl⟩
        rw [hz0] at hoc
        have co : wr.drew.cell? ⟨gb, t, none⟩ = some (.int .u8 z0) := hoc.1
        have ff : wr.drew.frozen? ⟨gb, t, none⟩ = false := hoc.2
        have HOn := Keep.mk ((show Own wr.drew _ _ from hO).set t (bits .or .u8 (l.getD t 0) (m.getD t 0)))
        rw [hl_set, show (hl l.length (upd (fun i => if i < t then f i else 0) t (bits .or .u8 (l.getD t 0) (m.getD t 0)))) = hl l.length fun i => if i < t + 1 then f i else 0 from hl_congr fun i hi => by
          unfold upd
          by_cases h : i = t
          · subst h; simp [hft]
          · simp only [if_neg h]
            by_cases h2 : i < t
            · rw [if_pos h2, if_pos (by omega)]
            · rw [if_neg h2, if_neg (by omega)]] at HOn
        have HBn := Keep.mk ((hB.drew).setCell hgeb (p := ⟨gb, t, none⟩) (.int .u8 (bits .or .u8 (l.getD t 0) (m.getD t 0))))
        have HSa : Keep ((wr.drew.setCell ⟨gb, t, none⟩ (.int .u8 (bits .or .u8 (l.getD t 0) (m.getD t 0)))).cell? ⟨b1, o1 + t, none⟩ = some (.int .u8 (l.getD t 0))) := ⟨by rw [HBn.out.cell (p := ⟨b1, o1 + t, none⟩) hl1]; exact ca0⟩
        have HSb : Keep ((wr.drew.setCell ⟨gb, t, none⟩ (.int .u8 (bits .or .u8 (l.getD t 0) (m.getD t 0)))).cell? ⟨b2, o2 + t, none⟩ = some (.int .u8 (m.getD t 0))) := ⟨by rw [HBn.out.cell (p := ⟨b2, o2 + t, none⟩) hl2]; exact cb0⟩
        clear hO hB hft hoc hz0 ca0 cb0 hl1 hl2
        generalize l.getD t 0 = za at *
        generalize m.getD t 0 = zb at *
        go_wp2_with fail
        refine wp_region_held_drew (S := fun wx => wx.cell? ⟨b1, o1 + t, none⟩ = some (.int .u8 za) ∧ wx.cell? ⟨b2, o2 + t, none⟩ = some (.int .u8 zb)) (by kernel_rfl) ⟨ca, cb⟩ (fun hHeld => ?_)
        generalize wr.drew = wd at *
        refine wpAnyH_take (i := 0) (oi := ⟨some 26, Op.move (Operand.tmp 6), 35, _, _, none⟩) (v := .slice (some ⟨gb, 0, none⟩) l.length l.length) rfl (by kernel_rfl) (by kernel_rfl) (by kernel_rfl) (fun _ _ _ h => h) (Or.inl ⟨by rfl, fun w hS => by go_simp⟩) hHeld ?_
        simp only [Act.put, List.setIfInBounds_toArray, List.set_cons_zero, List.set_cons_succ]
        refine wpAnyH_take (i := 1) (oi := ⟨some 27, Op.move (Operand.tmp 7), 3, _, _, none⟩) (v := .int .i64 (t : Int)) rfl (by kernel_rfl) (by kernel_rfl) (by kernel_rfl) (fun _ _ _ h => h) (Or.inl ⟨by rfl, fun w hS => by go_simp⟩) hHeld ?_
        simp only [Act.put, List.setIfInBounds_toArray, List.set_cons_zero, List.set_cons_succ]
        refine wpAnyH_take (i := 2) (oi := ⟨some 28, Op.move (Operand.tmp 0), 35, _, _, none⟩) (v := .slice (some ⟨b1, o1, none⟩) l.length ac) rfl (by kernel_rfl) (by kernel_rfl) (by kernel_rfl) (fun _ _ _ h => h) (Or.inl ⟨by rfl, fun w hS => by go_simp⟩) hHeld ?_
        simp only [Act.put, List.setIfInBounds_toArray, List.set_cons_zero, List.set_cons_succ]
        refine wpAnyH_take (i := 3) (oi := ⟨some 29, Op.move (Operand.tmp 7), 3, _, _, none⟩) (v := .int .i64 (t : Int)) rfl (by kernel_rfl) (by kernel_rfl) (by kernel_rfl) (fun _ _ _ h => h) (Or.inl ⟨by rfl, fun w hS => by go_simp⟩) hHeld ?_
        simp only [Act.put, List.setIfInBounds_toArray, List.set_cons_zero, List.set_cons_succ]
        refine wpAnyH_take (i := 4) (oi := ⟨some 30, Op.indexAddr 35 (Operand.tmp 28) (Operand.tmp 29), 0, _, _, none⟩) (v := .pointer (some ⟨b1, o1 + t, none⟩)) rfl (by kernel_rfl) (by kernel_rfl) (by kernel_rfl) (fun _ _ _ h => h) (Or.inl ⟨by rfl, fun w hS => by go_simp⟩) hHeld ?_
        simp only [Act.put, List.setIfInBounds_toArray, List.set_cons_zero, List.set_cons_succ]
        refine wpAnyH_take (i := 5) (oi := ⟨some 31, Op.load 5 (Operand.tmp 30), 5, _, _, none⟩) (v := .int .u8 za) rfl (by kernel_rfl) (by kernel_rfl) (by kernel_rfl) (fun _ _ _ h => h) (Or.inl ⟨by rfl, fun w hS => by have h1 := hS.1; go_simp⟩) hHeld ?_
        simp only [Act.put, List.setIfInBounds_toArray, List.set_cons_zero, List.set_cons_succ]
        refine wpAnyH_take (i := 6) (oi := ⟨some 32, Op.move (Operand.tmp 1), 35, _, _, none⟩) (v := .slice (some ⟨b2, o2, none⟩) l.length bc) rfl (by kernel_rfl) (by kernel_rfl) (by kernel_rfl) (fun _ _ _ h => h) (Or.inl ⟨by rfl, fun w hS => by go_simp⟩) hHeld ?_
        simp only [Act.put, List.setIfInBounds_toArray, List.set_cons_zero, List.set_cons_succ]
        refine wpAnyH_take (i := 7) (oi := ⟨some 33, Op.move (Operand.tmp 7), 3, _, _, none⟩) (v := .int .i64 (t : Int)) rfl (by kernel_rfl) (by kernel_rfl) (by kernel_rfl) (fun _ _ _ h => h) (Or.inl ⟨by rfl, fun w hS => by go_simp⟩) hHeld ?_
        simp only [Act.put, List.setIfInBounds_toArray, List.set_cons_zero, List.set_cons_succ]
        refine wpAnyH_take (i := 8) (oi := ⟨some 34, Op.indexAddr 35 (Operand.tmp 32) (Operand.tmp 33), 0, _, _, none⟩) (v := .pointer (some ⟨b2, o2 + t, none⟩)) rfl (by kernel_rfl) (by kernel_rfl) (by kernel_rfl) (fun _ _ _ h => h) (Or.inl ⟨by rfl, fun w hS => by go_simp⟩) hHeld ?_
        simp only [Act.put, List.setIfInBounds_toArray, List.set_cons_zero, List.set_cons_succ]
        refine wpAnyH_take (i := 9) (oi := ⟨some 35, Op.load 5 (Operand.tmp 34), 5, _, _, none⟩) (v := .int .u8 zb) rfl (by kernel_rfl) (by kernel_rfl) (by kernel_rfl) (fun _ _ _ h => h) (Or.inl ⟨by rfl, fun w hS => by have h1 := hS.2; go_simp⟩) hHeld ?_
        simp only [Act.put, List.setIfInBounds_toArray, List.set_cons_zero, List.set_cons_succ]
        refine wpAnyH_take (i := 10) (oi := ⟨some 36, Op.binOp BinOp.or 5 (Operand.tmp 31) (Operand.tmp 35) 5, 5, _, _, none⟩) (v := .int .u8 (bits .or .u8 za zb)) rfl (by kernel_rfl) (by kernel_rfl) (by kernel_rfl) (fun _ _ _ h => h) (Or.inl ⟨by rfl, fun w hS => by go_simp⟩) hHeld ?_
        simp only [Act.put, List.setIfInBounds_toArray, List.set_cons_zero, List.set_cons_succ]
        refine wpAnyH_take (i := 11) (oi := ⟨some 37, Op.indexAddr 35 (Operand.tmp 26) (Operand.tmp 27), 0, _, _, none⟩) (v := .pointer (some ⟨gb, t, none⟩)) rfl (by kernel_rfl) (by kernel_rfl) (by kernel_rfl) (fun _ _ _ h => h) (Or.inl ⟨by rfl, fun w hS => by go_simp⟩) hHeld ?_
        simp only [Act.put, List.setIfInBounds_toArray, List.set_cons_zero, List.set_cons_succ]
        refine wpAnyH_ready (rs := [12]) (by kernel_rfl) (by simp) ?_
        refine AllReadyH.cons (o := ⟨none, Op.store 5 (Operand.tmp 37) (Operand.tmp 36), 0, _, _, none⟩) rfl (fun K hK => ?_) (AllReadyH.nil)
        all_goals rw [if_pos (by rfl)]
        go_simp
        refine hK.out _ _ ⟨HSa.out, HSb.out⟩ fun _ => ?_
        clear hK
        refine wpAnyH_done (by kernel_rfl) ?_ _
        generalize wd.setCell ⟨gb, t, none⟩ (.int .u8 (bits .or .u8 za zb)) = we at *
        clear ca cb co ff hHeld HSa HSb
        go_wp2
        go_roundw
        case rel => exact ⟨t + 1, by omega, by go_num, HOn.out, HBn.out⟩
        case measure => simp only [intOf]; omega
      · obtain rfl : t = l.length := by omega
        have HO := Keep.mk (show Own wr (.slice (some ⟨gb, 0, none⟩) l.length l.length) (orL l m) from (show (hl l.length fun i => if i < l.length then f i else 0) = orL l m from hl_congr fun i hi => by rw [if_pos hi, hf.out]) ▸ hO)
        have HB := Keep.mk hB
        clear hO hB
        go_wp2
        go_ret2
        exact ⟨_, rfl, by rw [HJL.out]; exact HO.out, fun k hk => by simp [Value.ownBlock] at hk; omega, HB.out⟩
  · have hok : okJ l m = false := by rw [HOK.out]; simp [hlm]
    rw [hok] at HJL ⊢
    clear hok HOK
    have hlm' : (l.length : Int) ≠ m.length := by omega
    go_enter Try.func28, Try.ntmps28
    go_wp2_with (go_at_call 20; refine HRT.out.mono ?_; rintro e w' ⟨rfl, rfl⟩)
    go_ret2
    exact ⟨_, rfl, by rw [HJL.out]; exact own_nil _, fun k hk => by simp [Value.ownBlock] at hk, Below.refl _ _⟩

set_option maxRecDepth 8000 in
set_option maxHeartbeats 4000000 in
theorem rjoin_any (va vb : Value) (l m : List Int) (w : World) (ha : RowAt w va l) (hb : RowAt w vb m) (hm : m.length ≤ 140737488355328) :
    Calls Try.prog 27 #[va, vb] w (JoinPost l m w) := by
  unfold JoinPost
  have HRa := Keep.mk ha
  have HRb := Keep.mk hb
  obtain ⟨aa, ac, rfl⟩ := row_form ha
  obtain ⟨ba, bc, rfl⟩ := row_form hb
  have HN : Keep (isP l.length = true → (8 : Int) ≤ (l.length : Int) ∧ (l.length : Int) ≤ 8192) := ⟨isP_rng⟩
  have HOK : Keep (okJ l m = (isP l.length && (l.length == m.length))) := ⟨rfl⟩
  have HJL : Keep (joinL l m = if okJ l m = true then orL l m else []) := ⟨rfl⟩
  have HRT := Keep.mk (power_any l.length w)
  clear ha hb
  obtain ⟨b, hbb⟩ : ∃ b, b = isP l.length := ⟨_, rfl⟩
  rw [← hbb] at HRT HN HOK
  clear hbb
  cases b
  · have hok : okJ l m = false := by rw [HOK.out]; simp
    rw [hok] at HJL ⊢
    clear hok HOK
    go_enter Try.func27, Try.ntmps27
    go_wp2_with (go_at_call 29; refine HRT.out.mono ?_; rintro e w' ⟨rfl, rfl⟩)
    go_ret2
    exact ⟨_, rfl, by rw [HJL.out]; exact own_nil _, fun k hk => by simp [Value.ownBlock] at hk, Below.refl _ _⟩
  have HNN := Keep.mk (HN.out rfl)
  clear HN
  by_cases hlm : l.length = m.length
  · have hok : okJ l m = true := by rw [HOK.out, hlm]; simp
    rw [hok] at HJL ⊢
    clear hok HOK
    rw [if_pos rfl] at HJL
    rw [← hlm] at HRb hm ⊢
    have HLM := Keep.mk hlm
    clear hlm
    have hn := HNN.out
    have HF := Keep.mk (FreshB.empty w)
    go_enter Try.func27, Try.ntmps27
    go_wp2_with (go_at_call 29; refine HRT.out.mono ?_; rintro e w' ⟨rfl, rfl⟩)
    clear HRT
    obtain ⟨w, rfl⟩ : ∃ w, w = w' := ⟨_, rfl⟩
    obtain ⟨f, hf⟩ : ∃ f : Nat → Int, Keep (f = fun i => bits .or .u8 (l.getD i 0) (m.getD i 0)) := ⟨_, ⟨rfl⟩⟩
    go_loopw [7, 8] (fun b i wr => ∃ (t : Nat) (v1 : Value), t ≤ l.length ∧ v1 = b ∧ i = .int .i64 t ∧ FreshB w v1 (hl t f) wr) (fun _ i _ => l.length - (intOf i).toNat)
    case atStart => exact ⟨0, _, by omega, rfl, rfl, HF.out⟩
    case round =>
      clear HF
      obtain ⟨t, v1, ht, rfl, rfl, hF⟩ := hrel
      by_cases hlt : t < l.length
      · have hlt' : (t : Int) < l.length := by omega
        obtain ⟨b1, o1, rfl, ca0⟩ := HRa.out.at' hlt
        obtain ⟨b2, o2, rfl, cb0⟩ := HRb.out.at' (i := t) (by rw [← HLM.out]; exact hlt)
        have HCa : Keep (∀ wx, Below w.heap.size w wx → wx.cell? ⟨b1, o1 + t, none⟩ = some (.int .u8 (l.getD t 0))) := ⟨fun wx hx => by rw [hx.cell (p := ⟨b1, o1 + t, none⟩) (cell_lt ca0)]; exact ca0⟩
        have HCb : Keep (∀ wx, Below w.heap.size w wx → wx.cell? ⟨b2, o2 + t, none⟩ = some (.int .u8 (m.getD t 0))) := ⟨fun wx hx => by rw [hx.cell (p := ⟨b2, o2 + t, none⟩) (cell_lt cb0)]; exact cb0⟩
        have HE : Keep (hl (t + 1) f = hl t f ++ [bits .or .u8 (l.getD t 0) (m.getD t 0)]) := ⟨by rw [hf.out]; simp [hl, List.range_succ]⟩
        clear ca0 cb0
        generalize l.getD t 0 = za at *
        generalize m.getD t 0 = zb at *
        go_wp2_with fail
        refine wp_region_held_drew (S := fun wx => Below w.heap.size w wx) (by kernel_rfl) (hF.2.2.drew) (fun hHeld => ?_)
        have HFd : Keep (FreshB w v1 (hl t f) wr.drew) := ⟨hF.later (Below.refl _ _).drew⟩
        clear hF
        generalize wr.drew = wd at *
        refine wpAnyH_take (i := 0) (oi := ⟨some 28, Op.move (Operand.tmp 7), 35, _, _, none⟩) (v := v1) rfl (by kernel_rfl) (by kernel_rfl) (by kernel_rfl) (fun _ _ _ h => h) (Or.inl ⟨by rfl, fun w hS => by go_simp⟩) hHeld ?_
        simp only [Act.put, List.setIfInBounds_toArray, List.set_cons_zero, List.set_cons_succ]
        refine wpAnyH_take (i := 1) (oi := ⟨some 29, Op.move (Operand.tmp 0), 35, _, _, none⟩) (v := .slice (some ⟨b1, o1, none⟩) l.length ac) rfl (by kernel_rfl) (by kernel_rfl) (by kernel_rfl) (fun _ _ _ h => h) (Or.inl ⟨by rfl, fun w hS => by go_simp⟩) hHeld ?_
        simp only [Act.put, List.setIfInBounds_toArray, List.set_cons_zero, List.set_cons_succ]
        refine wpAnyH_take (i := 2) (oi := ⟨some 30, Op.move (Operand.tmp 8), 3, _, _, none⟩) (v := .int .i64 (t : Int)) rfl (by kernel_rfl) (by kernel_rfl) (by kernel_rfl) (fun _ _ _ h => h) (Or.inl ⟨by rfl, fun w hS => by go_simp⟩) hHeld ?_
        simp only [Act.put, List.setIfInBounds_toArray, List.set_cons_zero, List.set_cons_succ]
        refine wpAnyH_take (i := 3) (oi := ⟨some 31, Op.indexAddr 35 (Operand.tmp 29) (Operand.tmp 30), 0, _, _, none⟩) (v := .pointer (some ⟨b1, o1 + t, none⟩)) rfl (by kernel_rfl) (by kernel_rfl) (by kernel_rfl) (fun _ _ _ h => h) (Or.inl ⟨by rfl, fun w hS => by go_simp⟩) hHeld ?_
        simp only [Act.put, List.setIfInBounds_toArray, List.set_cons_zero, List.set_cons_succ]
        refine wpAnyH_take (i := 4) (oi := ⟨some 32, Op.load 5 (Operand.tmp 31), 5, _, _, none⟩) (v := .int .u8 za) rfl (by kernel_rfl) (by kernel_rfl) (by kernel_rfl) (fun _ _ _ h => h) (Or.inl ⟨by rfl, fun w hS => by have h1 := HCa.out _ hS; go_simp⟩) hHeld ?_
        simp only [Act.put, List.setIfInBounds_toArray, List.set_cons_zero, List.set_cons_succ]
        refine wpAnyH_take (i := 5) (oi := ⟨some 33, Op.move (Operand.tmp 1), 35, _, _, none⟩) (v := .slice (some ⟨b2, o2, none⟩) l.length bc) rfl (by kernel_rfl) (by kernel_rfl) (by kernel_rfl) (fun _ _ _ h => h) (Or.inl ⟨by rfl, fun w hS => by go_simp⟩) hHeld ?_
        simp only [Act.put, List.setIfInBounds_toArray, List.set_cons_zero, List.set_cons_succ]
        refine wpAnyH_take (i := 6) (oi := ⟨some 34, Op.move (Operand.tmp 8), 3, _, _, none⟩) (v := .int .i64 (t : Int)) rfl (by kernel_rfl) (by kernel_rfl) (by kernel_rfl) (fun _ _ _ h => h) (Or.inl ⟨by rfl, fun w hS => by go_simp⟩) hHeld ?_
        simp only [Act.put, List.setIfInBounds_toArray, List.set_cons_zero, List.set_cons_succ]
        refine wpAnyH_take (i := 7) (oi := ⟨some 35, Op.indexAddr 35 (Operand.tmp 33) (Operand.tmp 34), 0, _, _, none⟩) (v := .pointer (some ⟨b2, o2 + t, none⟩)) rfl (by kernel_rfl) (by kernel_rfl) (by kernel_rfl) (fun _ _ _ h => h) (Or.inl ⟨by rfl, fun w hS => by go_simp⟩) hHeld ?_
        simp only [Act.put, List.setIfInBounds_toArray, List.set_cons_zero, List.set_cons_succ]
        refine wpAnyH_take (i := 8) (oi := ⟨some 36, Op.load 5 (Operand.tmp 35), 5, _, _, none⟩) (v := .int .u8 zb) rfl (by kernel_rfl) (by kernel_rfl) (by kernel_rfl) (fun _ _ _ h => h) (Or.inl ⟨by rfl, fun w hS => by have h1 := HCb.out _ hS; go_simp⟩) hHeld ?_
        simp only [Act.put, List.setIfInBounds_toArray, List.set_cons_zero, List.set_cons_succ]
        refine wpAnyH_take (i := 9) (oi := ⟨some 37, Op.binOp BinOp.or 5 (Operand.tmp 32) (Operand.tmp 36) 5, 5, _, _, none⟩) (v := .int .u8 (bits .or .u8 za zb)) rfl (by kernel_rfl) (by kernel_rfl) (by kernel_rfl) (fun _ _ _ h => h) (Or.inl ⟨by rfl, fun w hS => by go_simp⟩) hHeld ?_
        simp only [Act.put, List.setIfInBounds_toArray, List.set_cons_zero, List.set_cons_succ]
        refine wpAnyH_ready (rs := [10]) (by kernel_rfl) (by simp) ?_
        refine AllReadyH.cons (o := ⟨some 38, Op.buildSlice 35 1 #[(0, Operand.tmp 37)], 35, _, _, none⟩) rfl (fun K hK => ?_) (AllReadyH.nil)
        all_goals rw [if_pos (by rfl)]
        refine wp_bs 35 1 _ rfl #[(0, .int .u8 (bits .or .u8 za zb))] (by simp [Act.eval]) _ _ (Try.bs35 (bits .or .u8 za zb) wd) ?_
        have HFe := Keep.mk (HFd.out.later (below_new wd (.cells #[.int .u8 (bits .or .u8 za zb)] 5)))
        have HR1 := Keep.mk (row_one wd (bits .or .u8 za zb))
        refine hK.out _ _ HFe.out.2.2 fun hHeld => ?_
        clear hK HFd
        simp only [Act.put, List.setIfInBounds_toArray, List.set_cons_zero, List.set_cons_succ]
        obtain ⟨g1, hg1⟩ : ∃ g, Keep (g = wd.heap.size) := ⟨_, ⟨rfl⟩⟩
        rw [← hg1.out] at HR1 ⊢
        generalize wd.alloc (.cells #[.int .u8 (bits .or .u8 za zb)] 5) = we at *
        refine wpAnyH_ready (rs := [11]) (by kernel_rfl) (by simp) ?_
        refine AllReadyH.cons (o := ⟨some 39, Op.call { callee := Callee.builtin Builtin.append, args := #[Operand.tmp 28, Operand.tmp 38], argTypes := #[35, 35] }, 35, _, _, none⟩) rfl (fun K hK => ?_) (AllReadyH.nil)
        all_goals rw [if_pos (by rfl)]
        refine wp_app (.tmp 28) (.tmp 38) rfl v1 (.slice (some ⟨g1, 0, none⟩) 1 1) (hl t f) [bits .or .u8 za zb] rfl rfl HFe.out.1 HR1.out (by rw [hl_len]; simp; omega) ?_
        intro v' w' hp
        have HP := Keep.mk (HFe.out.app hp)
        refine hK.out _ _ HP.out.2.2 fun hHeld => ?_
        clear hK hp HFe HR1
        simp only [Act.put, List.setIfInBounds_toArray, List.set_cons_zero, List.set_cons_succ]
        refine wpAnyH_take (i := 12) (oi := ⟨some 7, Op.assign (Operand.tmp 39), 35, _, _, none⟩) (v := v') rfl (by kernel_rfl) (by kernel_rfl) (by kernel_rfl) (fun _ _ _ h => h) (Or.inl ⟨by rfl, fun w hS => by go_simp⟩) hHeld ?_
        simp only [Act.put, List.setIfInBounds_toArray, List.set_cons_zero, List.set_cons_succ]
        refine wpAnyH_done (by kernel_rfl) ?_ _
        go_wp2
        go_roundw
        case rel => exact ⟨t + 1, _, by omega, rfl, by go_num, by rw [HE.out]; exact HP.out⟩
        case measure => simp only [intOf]; omega
      · obtain rfl : t = l.length := by omega
        have HO : Keep (FreshB w v1 (orL l m) wr) := ⟨by unfold orL; rw [← hf.out]; exact hF⟩
        clear hF
        go_wp2
        go_ret2
        exact ⟨_, rfl, by rw [HJL.out]; exact HO.out.new⟩
  · have hok : okJ l m = false := by rw [HOK.out]; simp [hlm]
    rw [hok] at HJL ⊢
    clear hok HOK
    have hlm' : (l.length : Int) ≠ m.length := by omega
    go_enter Try.func27, Try.ntmps27
    go_wp2_with (go_at_call 29; refine HRT.out.mono ?_; rintro e w' ⟨rfl, rfl⟩)
    go_ret2
    exact ⟨_, rfl, by rw [HJL.out]; exact own_nil _, fun k hk => by simp [Value.ownBlock] at hk, Below.refl _ _⟩

set_option maxHeartbeats 1000000 in
theorem fixed_any (w : World) : Calls Try.prog 9 #[] w fun e w' => e = .returned (.bool true) ∧ Below w.heap.size w w' := by
  have HS : Keep (∀ w, Calls Try.prog 10 #[.int .i64 7] w fun e w' => e = .returned (.int .i64 16) ∧ w' = w) := ⟨fun w => by
    have := size_any 7 w
    rw [show (szN 7 : Int) = 16 from rfl] at this
    exact this⟩
  have HO := Keep.mk (Of_any 0 [] (.slice none 0 0) w (by omega) (.inl ⟨none, 0, rfl, rfl, fun _ => rfl⟩) (by simp))
  have HL : Keep ((digL 0 []).length = 8) := ⟨by rw [digL_len]; rfl⟩
  have HP : Keep (isP ((8 : Nat) : Int) = true) := ⟨by decide⟩
  go_enter Try.func9, Try.ntmps9
  go_wp2_with (first | (go_at_call 10; refine (HS.out _).mono ?_; rintro e w' ⟨rfl, rfl⟩))
  refine HO.out.mono ?_
  rintro e w2 ⟨v, rfl, hF⟩
  obtain ⟨a, c, rfl⟩ := row_form hF.1.row
  have HR := Keep.mk (right_any _ _ w2 hF.1.row)
  have HB := Keep.mk hF.2.2
  rw [HL.out, HP.out] at HR
  rw [HL.out]
  clear hF
  go_wp2_with (first | (go_at_call 20; refine HR.out.mono ?_; rintro e w' ⟨rfl, rfl⟩))
  go_ret
  exact ⟨rfl, HB.out⟩

end Go.Proofs.Ytfheinghkigocaa
namespace Go.Proofs.Ytfheinghkigocaa
open Go.RowKit

/-- Eight marks. -/
def mk8 (t : Nat) : List Int := (List.range t).map fun i : Nat => 161 + (i : Int)
theorem mk8_len (t : Nat) : (mk8 t).length = t := by simp [mk8]
theorem mk8_next (t : Nat) : mk8 (t + 1) = mk8 t ++ [161 + (t : Int)] := by simp [mk8, List.range_succ]
/-- Bytes at the head of a block, eight marks behind them. -/
def Wd (w : World) (g : Nat) (l : List Int) : Prop := Blk w g 5 (bv (l ++ mk8 8)).toArray
theorem Wd.cell {w : World} {g : Nat} {l : List Int} (h : Wd w g l) (i : Nat) (hi : i < l.length + 8) : w.cell? ⟨g, i, none⟩ = some (.int .u8 ((l ++ mk8 8).getD i 0)) := by
  rw [Blk.cell h, List.getElem?_toArray, bv_get _ _ (by rw [List.length_append, mk8_len]; exact hi)]
theorem Wd.row {w : World} {g : Nat} {l : List Int} (h : Wd w g l) (cap : Nat) (hc : l.length ≤ cap) : RowAt w (.slice (some ⟨g, 0, none⟩) l.length cap) l := by
  refine .inr (.inr ⟨g, 0, cap, rfl, hc, fun i hi => ?_⟩)
  rw [Nat.zero_add, h.cell i (by omega)]
  simp [List.getD_eq_getElem?_getD, List.getElem?_append, hi]
theorem wide_next (l : List Int) (t : Nat) (ht : t < 8) : (bv (l ++ mk8 t ++ List.replicate (8 - t) 0)).toArray.setIfInBounds (l.length + t) (.int .u8 (161 + (t : Int))) = (bv (l ++ mk8 (t + 1) ++ List.replicate (8 - (t + 1)) 0)).toArray := by
  rw [List.setIfInBounds_toArray, mk8_next, show 8 - t = (8 - (t + 1)) + 1 by omega, List.replicate_succ]
  congr 1
  have e : l ++ mk8 t ++ 0 :: List.replicate (8 - (t + 1)) 0 = (l ++ mk8 t) ++ (0 : Int) :: List.replicate (8 - (t + 1)) 0 := rfl
  have hl : l.length + t = (bv (l ++ mk8 t)).length := by rw [bv_len, List.length_append, mk8_len]
  rw [e, bv_app, hl, List.set_append_right _ _ (Nat.le_refl _), Nat.sub_self]
  simp [bv]

set_option maxRecDepth 8000 in
set_option maxHeartbeats 1000000 in
set_option maxRecDepth 8000 in
theorem wide3_any (v : Value) (l : List Int) (w : World) (hr : RowAt w v l) (hb : l.length + 8 ≤ 140737488355328) :
    Calls Try.prog 19 #[v] w fun e w' => e = .returned (.slice (some ⟨w.heap.size, 0, none⟩) (l.length + 8) (l.length + 8)) ∧ Wd w' w.heap.size l ∧ Below w.heap.size w w' := by
  have HR := Keep.mk (hr.below (below_new w (.cells (bytesA (l.length + 8) fun _ => 0) 5)))
  obtain ⟨xa, xc, rfl⟩ := row_form hr
  have h8 : ((l.length : Int) + 8) = ((l.length + 8 : Nat) : Int) := by omega
  have hsm : (l.length : Int) ≤ 9223372036854775000 := by omega
  have hmk := run_makeB (l.length + 8) (l.length + 8) (Nat.le_refl _) (by omega) w
  have hmk2 : (Instr.makeSlice 35 (.int .i64 ((l.length : Int) + 8)) (.int .i64 ((l.length : Int) + 8))).run Try.prog w = .ok (.slice (some ⟨w.heap.size, 0, none⟩) (l.length + 8) (l.length + 8)) (w.alloc (.cells (bytesA (l.length + 8) fun _ => 0) 5)) := by rw [h8]; exact hmk
  have HN := Keep.mk (Blk.new w 5 (bytesA (l.length + 8) fun _ => 0))
  have HBe := Keep.mk (below_new w (.cells (bytesA (l.length + 8) fun _ => 0) 5))
  have hcp := run_copyG (w.alloc (.cells (bytesA (l.length + 8) fun _ => 0) 5)) w.heap.size 0 (l.length + 8) (l.length + 8) _ l 3 5 _ HN.out (by omega) (by rw [bytesA_size]; omega) HR.out
  have hrow : ((bytesA (l.length + 8) fun _ => 0).toList.take 0 ++ bv l ++ (bytesA (l.length + 8) fun _ => 0).toList.drop (0 + l.length)).toArray = (bv (l ++ mk8 0 ++ List.replicate (8 - 0) 0)).toArray := by
    congr 1
    have : (bytesA (l.length + 8) fun _ => 0).toList = List.replicate (l.length + 8) (.int .u8 0) := by
      apply List.ext_getElem?
      intro i
      rw [Array.getElem?_toList]
      by_cases h : i < l.length + 8
      · rw [bytesA_get _ _ _ h]; simp [h]
      · rw [Array.getElem?_eq_none (by rw [bytesA_size]; omega)]; simp [h]
    rw [this]
    simp [bv, mk8]
  rw [hrow] at hcp
  have HW0 := Keep.mk (HN.out.setRow (bv (l ++ mk8 0 ++ List.replicate (8 - 0) 0)).toArray)
  have HB0 := Keep.mk (below_setRow HBe.out (Nat.le_refl _) (bv (l ++ mk8 0 ++ List.replicate (8 - 0) 0)).toArray)
  obtain ⟨cs0, hcs0⟩ : ∃ cs0, Keep (cs0 = (bv (l ++ mk8 0 ++ List.replicate (8 - 0) 0)).toArray) := ⟨_, ⟨rfl⟩⟩
  rw [← hcs0.out] at hcp HW0 HB0
  clear hr hb hmk h8 hrow HN HBe HR
  go_enter Try.func19, Try.ntmps19
  generalize w.alloc (.cells (bytesA (l.length + 8) fun _ => 0) 5) = w1 at *
  go_wp2_with fail
  go_loopw [4] (fun i wr => ∃ t : Nat, t ≤ 8 ∧ i = .int .i64 t ∧ Blk wr w.heap.size 5 (bv (l ++ mk8 t ++ List.replicate (8 - t) 0)).toArray ∧ Below w.heap.size w wr) (fun i _ => 8 - (intOf i).toNat)
  case atStart => exact ⟨0, by omega, rfl, hcs0.out ▸ HW0.out, HB0.out⟩
  case round =>
    clear HW0 HB0 hcp hmk2 hcs0
    obtain ⟨t, ht, rfl, hB, hBl⟩ := hrel
    by_cases hlt : t < 8
    · have hlt' : (t : Int) < 8 := by omega
      have hwr : IntKind.u8.wrap (161 + (t : Int)) = 161 + (t : Int) := by rw [IntKind.wrap_u8]; omega
      have hlen : (l ++ mk8 t ++ List.replicate (8 - t) (0 : Int)).length = l.length + 8 := by simp [mk8_len]; omega
      have cc : wr.cell? ⟨w.heap.size, l.length + t, none⟩ = some (.int .u8 ((l ++ mk8 t ++ List.replicate (8 - t) 0).getD (l.length + t) 0)) := by
        rw [hB.cell, List.getElem?_toArray, bv_get _ _ (by rw [hlen]; omega)]
      have ff := hB.frozen (l.length + t)
      have HB := Keep.mk (hB.set (l.length + t) (.int .u8 (161 + (t : Int))))
      have HBl := Keep.mk (hBl.setCell (Nat.le_refl _) (p := ⟨w.heap.size, l.length + t, none⟩) (.int .u8 (161 + (t : Int))))
      rw [wide_next l t hlt] at HB
      clear hB hBl hlen
      generalize (l ++ mk8 t ++ List.replicate (8 - t) 0).getD (l.length + t) 0 = z at *
      go_wp2
      go_roundw
      case rel => exact ⟨t + 1, by omega, by go_num, HB.out, HBl.out⟩
      case measure => simp only [intOf]; omega
    · obtain rfl : t = 8 := by omega
      have HB : Keep (Wd wr w.heap.size l) := ⟨by simpa [Wd] using hB⟩
      have HBl := Keep.mk hBl
      clear hB hBl
      go_wp2
      go_ret
      exact ⟨rfl, HB.out, HBl.out⟩

theorem Wd.drewN {w : World} {g : Nat} {l : List Int} (h : Wd w g l) (n : Nat) : Wd (w.drewN n) g l := h
theorem RowAt.drewN {w : World} {v : Value} {l : List Int} (h : RowAt w v l) (n : Nat) : RowAt (w.drewN n) v l := h.grown ((Grown.refl w fun _ => False).drewN n) fun _ _ _ h => h
set_option maxRecDepth 8000 in
set_option maxHeartbeats 1000000 in
theorem kept3_any (g : Nat) (vb : Value) (l : List Int) (w : World) (hW : Wd w g l) (hr : RowAt w vb l) (hb : l.length + 8 ≤ 140737488355328) :
    Calls Try.prog 26 #[.slice (some ⟨g, 0, none⟩) (l.length + 8) (l.length + 8), vb] w fun e w' => e = .returned (.bool true) ∧ ∃ q, w' = w.drewN q := by
  have HW := Keep.mk hW
  obtain ⟨xa, xc, rfl⟩ := row_form hr
  obtain ⟨s, hs⟩ : ∃ s, Keep (s = strOfNums l) := ⟨_, ⟨rfl⟩⟩
  have hc1 : ∀ n, (convert 35 9 (.slice (some ⟨g, 0, none⟩) l.length (l.length + 8))).run Try.prog (w.drewN n) = .ok (.string s) (w.drewN n) := fun n => by rw [hs.out]; exact conv_row _ l _ ((hW.drewN n).row _ (by omega))
  have hc2 : ∀ n, (convert 35 9 (.slice xa l.length xc)).run Try.prog (w.drewN n) = .ok (.string s) (w.drewN n) := fun n => by rw [hs.out]; exact conv_row _ l _ (hr.drewN n)
  have hsl := sl_run (some ⟨g, 0, none⟩) (l.length + 8) (l.length + 8) l.length (by omega)
  have hsm : (l.length : Int) ≤ 9223372036854775000 := by omega
  have h8 : ((l.length : Int) + 8) = ((l.length + 8 : Nat) : Int) := by omega
  clear hW hr hb hs h8
  go_enter Try.func26, Try.ntmps26
  go_wp2_with fail
  go_quiet (fail)
  have HWq := Keep.mk (HW.out.drewN nq)
  obtain ⟨w1, hw1⟩ : ∃ w1, Keep (w1 = w.drewN nq) := ⟨_, ⟨rfl⟩⟩
  rw [← hw1.out] at HWq ⊢
  clear hc1 hc2 hsl HW
  go_wp2
  go_loop [5] (fun i => ∃ t : Nat, t ≤ 8 ∧ i = .int .i64 t) (fun i => 8 - (intOf i).toNat)
  case atStart => exact ⟨0, by omega, rfl⟩
  case round =>
    obtain ⟨t, ht, rfl⟩ := hrel
    by_cases hlt : t < 8
    · have hlt' : (t : Int) < 8 := by omega
      have hwr : IntKind.u8.wrap (161 + (t : Int)) = 161 + (t : Int) := by rw [IntKind.wrap_u8]; omega
      have cc : w1.cell? ⟨g, l.length + t, none⟩ = some (.int .u8 (161 + (t : Int))) := by
        rw [HWq.out.cell _ (by omega)]
        simp [List.getD_eq_getElem?_getD, mk8, hlt]
      go_wp2
      refine ⟨⟨t + 1, by omega, by go_num⟩, by simp only [intOf]; omega⟩
    · obtain rfl : t = 8 := by omega
      go_wp2
      go_ret
      exact ⟨rfl, nq, hw1.out⟩

/-- Bytes written over. -/
def tnL (l : List Int) : List Int := l.map fun c => bits .xor .u8 (IntKind.u8.wrap (c * 5)) 59
theorem tnL_len (l : List Int) : (tnL l).length = l.length := by simp [tnL]
theorem turn_next (l : List Int) (t : Nat) (ht : t < l.length) (z : Int) (hz : z = l.getD t 0) : (bv (tnL (l.take t) ++ l.drop t ++ mk8 8)).toArray.setIfInBounds t (.int .u8 (bits .xor .u8 (IntKind.u8.wrap (z * 5)) 59)) = (bv (tnL (l.take (t + 1)) ++ l.drop (t + 1) ++ mk8 8)).toArray := by
  rw [List.setIfInBounds_toArray]
  congr 1
  have e1 : l.drop t = l.getD t 0 :: l.drop (t + 1) := by
    rw [List.drop_eq_getElem_cons ht, List.getD_eq_getElem?_getD, List.getElem?_eq_getElem ht, Option.getD_some]
  have e2 : l.take (t + 1) = l.take t ++ [l.getD t 0] := by
    rw [List.take_add_one, List.getElem?_eq_getElem ht, List.getD_eq_getElem?_getD, List.getElem?_eq_getElem ht, Option.getD_some]; rfl
  have hl : t = (bv (tnL (l.take t))).length := by rw [bv_len, tnL_len, List.length_take]; omega
  rw [e1, e2, List.append_assoc, bv_app]
  conv => lhs; arg 2; rw [hl]
  rw [List.set_append_right _ _ (Nat.le_refl _), Nat.sub_self]
  simp [bv, tnL, hz]

set_option maxRecDepth 8000 in
set_option maxHeartbeats 1000000 in
theorem same3_any (va vb : Value) (l m : List Int) (w : World) (ha : RowAt w va l) (hb : RowAt w vb m) (e : Bool) (he : e = (strOfNums l == strOfNums m)) :
    Calls Try.prog 17 #[va, vb] w fun r w' => r = .returned (.bool e) ∧ w' = w := by
  have hc1 := conv_row va l w ha
  have hc2 := conv_row vb m w hb
  obtain ⟨xa, xc, rfl⟩ := row_form ha
  obtain ⟨ya, yc, rfl⟩ := row_form hb
  obtain ⟨s, hs⟩ : ∃ s, Keep (s = strOfNums l) := ⟨_, ⟨rfl⟩⟩
  obtain ⟨t, ht⟩ : ∃ t, Keep (t = strOfNums m) := ⟨_, ⟨rfl⟩⟩
  have HE := Keep.mk he
  rw [← hs.out] at hc1 HE
  rw [← ht.out] at hc2 HE
  clear ha hb he hs ht
  go_enter Try.func17, Try.ntmps17
  go_wp2
  go_ret
  exact ⟨by rw [HE.out, beq_toListBytes]; rfl, rfl⟩
end Go.Proofs.Ytfheinghkigocaa
namespace Go.Proofs.Ytfheinghkigocaa
open Go.RowKit
set_option linter.unusedSimpArgs false
set_option linter.unusedVariables false

theorem Try.in9 (w : World) (vs : Array Value) : (callFunc 9 vs).run Try.prog w = .ok (.enter 9 vs) w := by kernel_rfl
theorem Try.in19 (w : World) (vs : Array Value) : (callFunc 19 vs).run Try.prog w = .ok (.enter 19 vs) w := by kernel_rfl
theorem Try.in21 (w : World) (vs : Array Value) : (callFunc 21 vs).run Try.prog w = .ok (.enter 21 vs) w := by kernel_rfl
theorem Try.in22 (w : World) (vs : Array Value) : (callFunc 22 vs).run Try.prog w = .ok (.enter 22 vs) w := by kernel_rfl
theorem Try.in23 (w : World) (vs : Array Value) : (callFunc 23 vs).run Try.prog w = .ok (.enter 23 vs) w := by kernel_rfl
theorem Try.in24 (w : World) (vs : Array Value) : (callFunc 24 vs).run Try.prog w = .ok (.enter 24 vs) w := by kernel_rfl
theorem Try.in25 (w : World) (vs : Array Value) : (callFunc 25 vs).run Try.prog w = .ok (.enter 25 vs) w := by kernel_rfl
theorem Try.in26 (w : World) (vs : Array Value) : (callFunc 26 vs).run Try.prog w = .ok (.enter 26 vs) w := by kernel_rfl

/-- Bytes turned. -/
def flL (y : Int) (l : List Int) : List Int := l.map fun c => bits .xor .u8 c y
theorem flL_len (y : Int) (l : List Int) : (flL y l).length = l.length := by simp [flL]
theorem xor_u8 (a b : Int) (ha : 0 ≤ a ∧ a < 256) (hb : 0 ≤ b ∧ b < 256) : 0 ≤ bits .xor .u8 a b ∧ bits .xor .u8 a b < 256 := by
  unfold bits
  simp only []
  rw [IntKind.wrap_u8]
  omega
theorem flL_byts {l : List Int} (h : Byts l) (y : Int) (hy : 0 ≤ y ∧ y < 256) : Byts (flL y l) := fun c hc => by
  obtain ⟨z, hz, rfl⟩ := List.mem_map.1 hc
  exact xor_u8 z y (h z hz) hy
theorem flip_next (y : Int) (l : List Int) (t : Nat) (ht : t < l.length) (z : Int) (hz : z = l.getD t 0) : (bv (flL y (l.take t) ++ l.drop t ++ mk8 8)).toArray.setIfInBounds t (.int .u8 (bits .xor .u8 z y)) = (bv (flL y (l.take (t + 1)) ++ l.drop (t + 1) ++ mk8 8)).toArray := by
  rw [List.setIfInBounds_toArray]
  congr 1
  have e1 : l.drop t = l.getD t 0 :: l.drop (t + 1) := by
    rw [List.drop_eq_getElem_cons ht, List.getD_eq_getElem?_getD, List.getElem?_eq_getElem ht, Option.getD_some]
  have e2 : l.take (t + 1) = l.take t ++ [l.getD t 0] := by
    rw [List.take_add_one, List.getElem?_eq_getElem ht, List.getD_eq_getElem?_getD, List.getElem?_eq_getElem ht, Option.getD_some]; rfl
  have hl : t = (bv (flL y (l.take t))).length := by rw [bv_len, flL_len, List.length_take]; omega
  rw [e1, e2, List.append_assoc, bv_app]
  conv => lhs; arg 2; rw [hl]
  rw [List.set_append_right _ _ (Nat.le_refl _), Nat.sub_self]
  simp [bv, flL, hz]
theorem flip_cell {w : World} {g t : Nat} {y : Int} {l : List Int} (h : Blk w g 5 (bv (flL y (l.take t) ++ l.drop t ++ mk8 8)).toArray) (ht : t < l.length) : w.cell? ⟨g, t, none⟩ = some (.int .u8 (l.getD t 0)) := by
  rw [h.cell, List.getElem?_toArray, bv_get _ _ (by simp [flL_len, mk8_len]; omega)]
  congr 2
  rw [List.getD_eq_getElem?_getD, List.getElem?_append_left (by simp [flL_len]; omega), List.getElem?_append_right (by simp [flL_len]; omega)]
  simp [flL_len, List.getD_eq_getElem?_getD, Nat.min_eq_left (Nat.le_of_lt ht)]
/-- What stands while bytes are asked. -/
structure AS (w : World) (gw g5 : Nat) (ch : Array Value) (vb : Value) (l m : List Int) (wr : World) : Prop where
  wd : Wd wr gw m
  g : Blk wr g5 27 ch
  r : RowAt wr vb l
  B : Below w.heap.size w wr
theorem AS.more {w wr w' : World} {gw g5 : Nat} {ch : Array Value} {vb : Value} {l m : List Int} (h : AS w gw g5 ch vb l m wr) (hb : Below wr.heap.size wr w') : AS w gw g5 ch vb l m w' :=
  ⟨Blk.below h.wd hb (Blk.lt h.wd), h.g.below hb h.g.lt, h.r.below hb, h.B.trans (hb.mono h.B.size)⟩

set_option maxRecDepth 8000 in
set_option maxHeartbeats 8000000 in
theorem basks_any (s : Int) (vb : Value) (l : List Int) (x : Hs) (w : World) (hs : 0 ≤ s ∧ s < 18446744073709551616) (hr : RowAt w vb l) (hb : Byts l) (hl : l.length ≤ 140737488351232) (hlt : ∀ k, vb.ownBlock = some k → k < w.heap.size) :
    Calls Try.prog 7 #[.int .u64 s, vb, .agg (bytesA 32 x.f)] w fun e w' => e = .returned (.bool true) ∧ Below w.heap.size w w' := by
  obtain ⟨ch, Hch⟩ : ∃ ch, Keep (ch = bytesA 32 x.f) := ⟨_, ⟨rfl⟩⟩
  have HIch : Keep ((Try.prog.info? 27).map (·.size) = some ch.size) := ⟨by rw [Hch.out]; exact Try.size27B _⟩
  have HOch : Keep (ch.all (·.oneCell') = true) := ⟨by rw [Hch.out]; exact bytesA_one _ _⟩
  have HH : Keep (∀ m v wx, RowAt wx v m → Byts m → Calls Try.prog 22 #[.int .u64 s, v, .agg ch] wx (HasPost s m x wx)) := ⟨fun m v wx h1 h2 => by rw [Hch.out]; exact has_any s v m x wx hs h1 h2⟩
  have HHr : Keep (∀ m v wx, RowAt wx v m → Byts m → Calls Try.prog 23 #[.int .u64 s, v, .agg ch] wx (HasPost s m x wx)) := ⟨fun m v wx h1 h2 => by rw [Hch.out]; exact rhas_any s v m x wx hs h1 h2⟩
  rw [← Hch.out]
  obtain ⟨ba, bc, hvb⟩ := row_form hr
  have Hvb := Keep.mk hvb
  have HR0 := Keep.mk (hr.below (below_new w (.cells ch 27)))
  have Hb := Keep.mk hb
  have Hl := Keep.mk hl
  have HLT : Keep (∀ b, vb.ownBlock = some b → ¬ w.heap.size ≤ b) := ⟨fun b hb hle => by have := hlt b hb; omega⟩
  clear hs hr hb hl hlt
  subst hvb
  obtain ⟨N, hN⟩ : ∃ N, Keep (N = l.length) := ⟨_, ⟨rfl⟩⟩
  rw [← hN.out] at HR0 Hvb HLT ⊢
  have hNb : (N : Int) ≤ 140737488351232 := by have := Hl.out; have := hN.out; omega
  obtain ⟨vb, hvb⟩ : ∃ vb, Keep (vb = Value.slice ba N bc) := ⟨_, ⟨rfl⟩⟩
  rw [← hvb.out] at HR0
  clear Hvb
  have hsl := sl_run (some ⟨0, 0, none⟩) (N + 8) (N + 8) N (by omega)
  clear hsl
  go_enter Try.func7, Try.ntmps7
  go_wp2_with (first | (refine wpList_boxA rfl 27 (.tmp 2) rfl ch rfl ?_; refine Hid.out ?_))
  refine hid_in ?_
  have H5 := Keep.mk (Blk.new w 27 ch)
  have HB := Keep.mk (below_new w (.cells ch 27))
  obtain ⟨g5, hg5⟩ : ∃ g, Keep (g = w.heap.size) := ⟨_, ⟨rfl⟩⟩
  rw [← hg5.out] at H5 ⊢
  generalize w.alloc (.cells ch 27) = wa at *
  go_wp2_with fail
  refine (fixed_any wa).mono ?_
  rintro e w1 ⟨rfl, hb1⟩
  have HR1 := Keep.mk (HR0.out.below hb1)
  have H5a := Keep.mk (H5.out.below hb1 H5.out.lt)
  have HBa := Keep.mk (HB.out.trans (hb1.mono HB.out.size))
  have HWD := Keep.mk (wide3_any _ l w1 HR1.out (by have := Hl.out; omega))
  rw [hvb.out, ← hN.out] at HWD
  clear hb1 H5 HB HR0
  go_wp2_with fail
  refine HWD.out.mono ?_
  rintro e w2 ⟨rfl, hwd, hb2⟩
  obtain ⟨gw, hgw⟩ : ∃ g, Keep (g = w1.heap.size) := ⟨_, ⟨rfl⟩⟩
  rw [← hgw.out] at hwd ⊢
  have HR2 : Keep (∀ b, vb.ownBlock = some b → ¬ w.heap.size ≤ b) := ⟨fun b hb hle => HLT.out b (by rw [← hvb.out]; exact hb) hle⟩
  have HA0 : Keep (AS w gw g5 ch vb l l w2) := ⟨⟨hwd, H5a.out.below hb2 H5a.out.lt, HR1.out.below hb2, HBa.out.trans (hb2.mono HBa.out.size)⟩⟩
  have hgew : w.heap.size ≤ gw := by rw [hgw.out]; exact HBa.out.size
  have hn5 : g5 ≠ gw := by have := H5a.out.lt; have := hgw.out; omega
  clear hwd hb2 HWD H5a HR1 HBa
  have hsl := sl_run (some ⟨gw, 0, none⟩) (N + 8) (N + 8) N (by omega)
  obtain ⟨P, hP⟩ : ∃ P, Keep (P = isP N) := ⟨_, ⟨rfl⟩⟩
  obtain ⟨CH, hCH⟩ : ∃ CH, Keep (CH = ch.toList) := ⟨_, ⟨rfl⟩⟩
  have hCA : CH.toArray = ch := by rw [hCH.out]
  have hiH : (Try.prog.info? 27).map (·.size) = some CH.length := by rw [hCH.out, Array.length_toList]; exact HIch.out
  have hu := Try.underlying27
  have hPP : (P != P) = false := by simp
  go_wp2_with fail
  go_loopw [9] (fun i wr => ∃ t : Nat, t ≤ 2 ∧ i = .int .i64 t ∧ AS w gw g5 ch vb l (if t = 0 then l else flL 255 l) wr) (fun i _ => 2 - (intOf i).toNat)
  case atStart => exact ⟨0, by omega, rfl, HA0.out⟩
  case round =>
    clear HA0
    obtain ⟨t, ht, rfl, hA⟩ := hrel
    by_cases hlt : t < 2
    · have hlt' : (t : Int) < 2 := by omega
      have hmN : Keep ((if t = 0 then l else flL 255 l).length = N) := ⟨by split <;> simp [flL_len, hN.out]⟩
      have hmB : Keep (Byts (if t = 0 then l else flL 255 l)) := ⟨by split; exact Hb.out; exact flL_byts Hb.out 255 (by omega)⟩
      have hm0 : Keep (t = 0 → (if t = 0 then l else flL 255 l) = l) := ⟨fun h => by rw [if_pos h]⟩
      have hm1 : Keep (t ≠ 0 → (if t = 0 then l else flL 255 l) = flL 255 l) := ⟨fun h => by rw [if_neg h]⟩
      have HA := Keep.mk hA
      clear hA
      generalize (if t = 0 then l else flL 255 l) = m at *
      have HRow : Keep (∀ wx, AS w gw g5 ch vb l m wx → RowAt wx (.slice (some ⟨gw, 0, none⟩) N (N + 8)) m) := ⟨fun wx h => by have := h.wd.row (N + 8) (by rw [hmN.out]; omega); rwa [hmN.out] at this⟩
      obtain ⟨A, hAA⟩ : ∃ A, Keep (A = (P && hasB s m x)) := ⟨_, ⟨rfl⟩⟩
      obtain ⟨E, hE⟩ : ∃ E : Int, Keep (E = if P = true then 0 else 60) := ⟨_, ⟨rfl⟩⟩
      obtain ⟨C, hC⟩ : ∃ C, Keep (C = popU m m.length) := ⟨_, ⟨rfl⟩⟩
      have hEE : (A != A) = false := by simp
      have HCT : Keep (∀ wx, AS w gw g5 ch vb l m wx → Calls Try.prog 21 #[.slice (some ⟨gw, 0, none⟩) N (N + 8)] wx fun e w' => e = .returned (.int .i64 C) ∧ w' = wx) := ⟨fun wx h => by rw [hC.out]; exact count_any _ m wx (HRow.out wx h) hmB.out (by rw [hmN.out]; omega)⟩
      have HCR : Keep (∀ wx, AS w gw g5 ch vb l m wx → Calls Try.prog 25 #[.slice (some ⟨gw, 0, none⟩) N (N + 8)] wx fun e w' => e = .returned (.int .i64 C) ∧ w' = wx) := ⟨fun wx h => by rw [hC.out]; exact rcount_any _ m wx (HRow.out wx h) hmB.out (by rw [hmN.out]; omega)⟩
      have HRT : Keep (∀ wx, AS w gw g5 ch vb l m wx → Calls Try.prog 20 #[.slice (some ⟨gw, 0, none⟩) N (N + 8)] wx fun e w' => e = .returned (.bool P) ∧ w' = wx) := ⟨fun wx h => by have := right_any _ m wx (HRow.out wx h); rwa [hmN.out, ← hP.out] at this⟩
      have HRR : Keep (∀ wx, AS w gw g5 ch vb l m wx → Calls Try.prog 24 #[.slice ba N bc] wx fun e w' => e = .returned (.bool P) ∧ w' = wx) := ⟨fun wx h => by have := rright_any _ l wx h.r; rwa [← hN.out, ← hP.out, hvb.out] at this⟩
      have HHA : Keep (∀ wx, AS w gw g5 ch vb l m wx → Calls Try.prog 22 #[.int .u64 s, .slice (some ⟨gw, 0, none⟩) N (N + 8), .agg ch] wx fun e w' => e = .returned (.tuple #[.bool A, .int .i64 E]) ∧ Below wx.heap.size wx w') := ⟨fun wx h => by have := HH.out m _ wx (HRow.out wx h) hmB.out; unfold HasPost at this; rwa [hmN.out, ← hP.out, ← hAA.out, ← hE.out] at this⟩
      have HHB : Keep (∀ wx, AS w gw g5 ch vb l m wx → Calls Try.prog 23 #[.int .u64 s, .slice (some ⟨gw, 0, none⟩) N (N + 8), .agg ch] wx fun e w' => e = .returned (.tuple #[.bool A, .int .i64 E]) ∧ Below wx.heap.size wx w') := ⟨fun wx h => by have := HHr.out m _ wx (HRow.out wx h) hmB.out; unfold HasPost at this; rwa [hmN.out, ← hP.out, ← hAA.out, ← hE.out] at this⟩
      have HCH : Keep (∀ wx, AS w gw g5 ch vb l m wx → wx.rangeAt g5 0 CH) := ⟨fun wx h => by rw [hCH.out]; exact blk_range h.g⟩
      go_wp2_with (first | (go_at_call 20; refine (HRT.out _ HA.out).mono ?_; rintro e w' ⟨rfl, rfl⟩) | (go_at_call 21; refine (HCT.out _ HA.out).mono ?_; rintro e w' ⟨rfl, rfl⟩))
      clear HRT HCT
      go_wp2_with fail
      refine wp_region_held_drew (S := fun wx => AS w gw g5 ch vb l m wx) (by kernel_rfl) (HA.out.more (Below.refl _ _).drew) (fun hHeld => ?_)
      have HAd := Keep.mk (HA.out.more (Below.refl _ _).drew)
      clear HA
      generalize w'.drew = wd at *
      refine wpAnyH_take (i := 0) (oi := ⟨some 36, Op.move (Operand.tmp 0), 25, _, _, none⟩) (v := .int .u64 s) rfl (by kernel_rfl) (by kernel_rfl) (by kernel_rfl) (fun _ _ _ h => h) (Or.inl ⟨by rfl, fun w hS => by go_simp⟩) hHeld ?_
      simp only [Act.put, List.setIfInBounds_toArray, List.set_cons_zero, List.set_cons_succ]
      refine wpAnyH_take (i := 1) (oi := ⟨some 37, Op.move (Operand.tmp 8), 35, _, _, none⟩) (v := .slice (some ⟨gw, 0, none⟩) (N + 8) (N + 8)) rfl (by kernel_rfl) (by kernel_rfl) (by kernel_rfl) (fun _ _ _ h => h) (Or.inl ⟨by rfl, fun w hS => by go_simp⟩) hHeld ?_
      simp only [Act.put, List.setIfInBounds_toArray, List.set_cons_zero, List.set_cons_succ]
      refine wpAnyH_take (i := 2) (oi := ⟨some 38, Op.move (Operand.tmp 1), 35, _, _, none⟩) (v := .slice ba N bc) rfl (by kernel_rfl) (by kernel_rfl) (by kernel_rfl) (fun _ _ _ h => h) (Or.inl ⟨by rfl, fun w hS => by go_simp⟩) hHeld ?_
      simp only [Act.put, List.setIfInBounds_toArray, List.set_cons_zero, List.set_cons_succ]
      refine wpAnyH_take (i := 3) (oi := ⟨some 39, Op.call { callee := Callee.builtin Builtin.len, args := #[Operand.tmp 38], argTypes := #[35] }, 3, _, _, none⟩) (v := .int .i64 (N : Int)) rfl (by kernel_rfl) (by kernel_rfl) (by kernel_rfl) (fun _ _ _ h => h) (Or.inl ⟨by rfl, fun w hS => by go_simp⟩) hHeld ?_
      simp only [Act.put, List.setIfInBounds_toArray, List.set_cons_zero, List.set_cons_succ]
      refine wpAnyH_take (i := 4) (oi := ⟨some 40, Op.slice 35 (Operand.tmp 37) none (some (Operand.tmp 39)) none, 35, _, _, none⟩) (v := .slice (some ⟨gw, 0, none⟩) N (N + 8)) rfl (by kernel_rfl) (by kernel_rfl) (by kernel_rfl) (fun _ _ _ h => h) (Or.inl ⟨by rfl, fun w hS => by have h1 := hsl; go_simp⟩) hHeld ?_
      simp only [Act.put, List.setIfInBounds_toArray, List.set_cons_zero, List.set_cons_succ]
      refine wpAnyH_take (i := 5) (oi := ⟨some 41, Op.load 27 (Operand.tmp 5), 27, _, _, none⟩) (v := .agg (CH).toArray) rfl (by kernel_rfl) (by kernel_rfl) (by kernel_rfl) (fun _ _ _ h => h) (yieldsIf_load_mid (by rfl) 27 (Operand.tmp 5) rfl g5 0 rfl CH _ (fun w hS => (HCH.out _ hS)) hu rfl hiH) hHeld ?_
      simp only [Act.put, List.setIfInBounds_toArray, List.set_cons_zero, List.set_cons_succ]
      rw [hCA]
      refine wpAnyH_ready (rs := [6]) (by kernel_rfl) (by simp) ?_
      refine AllReadyH.cons (o := ⟨some 42, Op.call { callee := Callee.value (Operand.func 22), args := #[Operand.tmp 36, Operand.tmp 40, Operand.tmp 41], argTypes := #[25, 35, 27] }, 45, _, _, none⟩) rfl (fun K hK => ?_) (AllReadyH.nil)
      all_goals rw [if_pos (by rfl)]
      refine wp_callF 22 _ _ rfl Try.in22 #[.int .u64 s, .slice (some ⟨gw, 0, none⟩) N (N + 8), .agg ch] (by simp [Act.eval]) (fun vz wz => vz = .tuple #[.bool A, .int .i64 E] ∧ Below wd.heap.size wd wz) ?_ ?_
      · refine (HHA.out _ HAd.out).mono ?_
        rintro e wz ⟨rfl, hbz⟩
        exact ⟨_, rfl, rfl, hbz⟩
      rintro vz w8 ⟨rfl, hb⟩
      have HA := Keep.mk (HAd.out.more hb)
      refine hK.out _ _ HA.out fun hHeld => ?_
      clear hK HAd hb
      simp only [Act.put, List.setIfInBounds_toArray, List.set_cons_zero, List.set_cons_succ]
      refine wpAnyH_take (i := 7) (oi := ⟨some 35, Op.move (Operand.tmp 42), 45, _, _, none⟩) (v := .tuple #[.bool A, .int .i64 E]) rfl (by kernel_rfl) (by kernel_rfl) (by kernel_rfl) (fun _ _ _ h => h) (Or.inl ⟨by rfl, fun w hS => by go_simp⟩) hHeld ?_
      simp only [Act.put, List.setIfInBounds_toArray, List.set_cons_zero, List.set_cons_succ]
      refine wpAnyH_take (i := 8) (oi := ⟨some 43, Op.extract (Operand.tmp 35) 0, 4, _, _, none⟩) (v := .bool A) rfl (by kernel_rfl) (by kernel_rfl) (by kernel_rfl) (fun _ _ _ h => h) (Or.inl ⟨by rfl, fun w hS => by go_simp⟩) hHeld ?_
      simp only [Act.put, List.setIfInBounds_toArray, List.set_cons_zero, List.set_cons_succ]
      refine wpAnyH_take (i := 9) (oi := ⟨some 44, Op.extract (Operand.tmp 35) 1, 44, _, _, none⟩) (v := .int .i64 E) rfl (by kernel_rfl) (by kernel_rfl) (by kernel_rfl) (fun _ _ _ h => h) (Or.inl ⟨by rfl, fun w hS => by go_simp⟩) hHeld ?_
      simp only [Act.put, List.setIfInBounds_toArray, List.set_cons_zero, List.set_cons_succ]
      refine wpAnyH_take (i := 10) (oi := ⟨some 12, Op.assign (Operand.tmp 43), 4, _, _, none⟩) (v := .bool A) rfl (by kernel_rfl) (by kernel_rfl) (by kernel_rfl) (fun _ _ _ h => h) (Or.inl ⟨by rfl, fun w hS => by go_simp⟩) hHeld ?_
      simp only [Act.put, List.setIfInBounds_toArray, List.set_cons_zero, List.set_cons_succ]
      refine wpAnyH_take (i := 11) (oi := ⟨some 13, Op.assign (Operand.tmp 44), 44, _, _, none⟩) (v := .int .i64 E) rfl (by kernel_rfl) (by kernel_rfl) (by kernel_rfl) (fun _ _ _ h => h) (Or.inl ⟨by rfl, fun w hS => by go_simp⟩) hHeld ?_
      simp only [Act.put, List.setIfInBounds_toArray, List.set_cons_zero, List.set_cons_succ]
      refine wpAnyH_done (by kernel_rfl) ?_ _
      clear hHeld
      go_wp2_with fail
      refine wp_region_held_drew (S := fun wx => AS w gw g5 ch vb l m wx) (by kernel_rfl) (HA.out.more (Below.refl _ _).drew) (fun hHeld => ?_)
      have HAd := Keep.mk (HA.out.more (Below.refl _ _).drew)
      clear HA
      generalize w8.drew = wd at *
      refine wpAnyH_take (i := 0) (oi := ⟨some 46, Op.move (Operand.tmp 0), 25, _, _, none⟩) (v := .int .u64 s) rfl (by kernel_rfl) (by kernel_rfl) (by kernel_rfl) (fun _ _ _ h => h) (Or.inl ⟨by rfl, fun w hS => by go_simp⟩) hHeld ?_
      simp only [Act.put, List.setIfInBounds_toArray, List.set_cons_zero, List.set_cons_succ]
      refine wpAnyH_take (i := 1) (oi := ⟨some 47, Op.move (Operand.tmp 8), 35, _, _, none⟩) (v := .slice (some ⟨gw, 0, none⟩) (N + 8) (N + 8)) rfl (by kernel_rfl) (by kernel_rfl) (by kernel_rfl) (fun _ _ _ h => h) (Or.inl ⟨by rfl, fun w hS => by go_simp⟩) hHeld ?_
      simp only [Act.put, List.setIfInBounds_toArray, List.set_cons_zero, List.set_cons_succ]
      refine wpAnyH_take (i := 2) (oi := ⟨some 48, Op.move (Operand.tmp 1), 35, _, _, none⟩) (v := .slice ba N bc) rfl (by kernel_rfl) (by kernel_rfl) (by kernel_rfl) (fun _ _ _ h => h) (Or.inl ⟨by rfl, fun w hS => by go_simp⟩) hHeld ?_
      simp only [Act.put, List.setIfInBounds_toArray, List.set_cons_zero, List.set_cons_succ]
      refine wpAnyH_take (i := 3) (oi := ⟨some 49, Op.call { callee := Callee.builtin Builtin.len, args := #[Operand.tmp 48], argTypes := #[35] }, 3, _, _, none⟩) (v := .int .i64 (N : Int)) rfl (by kernel_rfl) (by kernel_rfl) (by kernel_rfl) (fun _ _ _ h => h) (Or.inl ⟨by rfl, fun w hS => by go_simp⟩) hHeld ?_
      simp only [Act.put, List.setIfInBounds_toArray, List.set_cons_zero, List.set_cons_succ]
      refine wpAnyH_take (i := 4) (oi := ⟨some 50, Op.slice 35 (Operand.tmp 47) none (some (Operand.tmp 49)) none, 35, _, _, none⟩) (v := .slice (some ⟨gw, 0, none⟩) N (N + 8)) rfl (by kernel_rfl) (by kernel_rfl) (by kernel_rfl) (fun _ _ _ h => h) (Or.inl ⟨by rfl, fun w hS => by have h1 := hsl; go_simp⟩) hHeld ?_
      simp only [Act.put, List.setIfInBounds_toArray, List.set_cons_zero, List.set_cons_succ]
      refine wpAnyH_take (i := 5) (oi := ⟨some 51, Op.load 27 (Operand.tmp 5), 27, _, _, none⟩) (v := .agg (CH).toArray) rfl (by kernel_rfl) (by kernel_rfl) (by kernel_rfl) (fun _ _ _ h => h) (yieldsIf_load_mid (by rfl) 27 (Operand.tmp 5) rfl g5 0 rfl CH _ (fun w hS => (HCH.out _ hS)) hu rfl hiH) hHeld ?_
      simp only [Act.put, List.setIfInBounds_toArray, List.set_cons_zero, List.set_cons_succ]
      rw [hCA]
      refine wpAnyH_ready (rs := [6]) (by kernel_rfl) (by simp) ?_
      refine AllReadyH.cons (o := ⟨some 52, Op.call { callee := Callee.value (Operand.func 23), args := #[Operand.tmp 46, Operand.tmp 50, Operand.tmp 51], argTypes := #[25, 35, 27] }, 45, _, _, none⟩) rfl (fun K hK => ?_) (AllReadyH.nil)
      all_goals rw [if_pos (by rfl)]
      refine wp_callF 23 _ _ rfl Try.in23 #[.int .u64 s, .slice (some ⟨gw, 0, none⟩) N (N + 8), .agg ch] (by simp [Act.eval]) (fun vz wz => vz = .tuple #[.bool A, .int .i64 E] ∧ Below wd.heap.size wd wz) ?_ ?_
      · refine (HHB.out _ HAd.out).mono ?_
        rintro e wz ⟨rfl, hbz⟩
        exact ⟨_, rfl, rfl, hbz⟩
      rintro vz w9 ⟨rfl, hb⟩
      have HA := Keep.mk (HAd.out.more hb)
      refine hK.out _ _ HA.out fun hHeld => ?_
      clear hK HAd hb
      simp only [Act.put, List.setIfInBounds_toArray, List.set_cons_zero, List.set_cons_succ]
      refine wpAnyH_take (i := 7) (oi := ⟨some 45, Op.move (Operand.tmp 52), 45, _, _, none⟩) (v := .tuple #[.bool A, .int .i64 E]) rfl (by kernel_rfl) (by kernel_rfl) (by kernel_rfl) (fun _ _ _ h => h) (Or.inl ⟨by rfl, fun w hS => by go_simp⟩) hHeld ?_
      simp only [Act.put, List.setIfInBounds_toArray, List.set_cons_zero, List.set_cons_succ]
      refine wpAnyH_take (i := 8) (oi := ⟨some 53, Op.extract (Operand.tmp 45) 0, 4, _, _, none⟩) (v := .bool A) rfl (by kernel_rfl) (by kernel_rfl) (by kernel_rfl) (fun _ _ _ h => h) (Or.inl ⟨by rfl, fun w hS => by go_simp⟩) hHeld ?_
      simp only [Act.put, List.setIfInBounds_toArray, List.set_cons_zero, List.set_cons_succ]
      refine wpAnyH_take (i := 9) (oi := ⟨some 54, Op.extract (Operand.tmp 45) 1, 44, _, _, none⟩) (v := .int .i64 E) rfl (by kernel_rfl) (by kernel_rfl) (by kernel_rfl) (fun _ _ _ h => h) (Or.inl ⟨by rfl, fun w hS => by go_simp⟩) hHeld ?_
      simp only [Act.put, List.setIfInBounds_toArray, List.set_cons_zero, List.set_cons_succ]
      refine wpAnyH_take (i := 10) (oi := ⟨some 14, Op.assign (Operand.tmp 53), 4, _, _, none⟩) (v := .bool A) rfl (by kernel_rfl) (by kernel_rfl) (by kernel_rfl) (fun _ _ _ h => h) (Or.inl ⟨by rfl, fun w hS => by go_simp⟩) hHeld ?_
      simp only [Act.put, List.setIfInBounds_toArray, List.set_cons_zero, List.set_cons_succ]
      refine wpAnyH_take (i := 11) (oi := ⟨some 15, Op.assign (Operand.tmp 54), 44, _, _, none⟩) (v := .int .i64 E) rfl (by kernel_rfl) (by kernel_rfl) (by kernel_rfl) (fun _ _ _ h => h) (Or.inl ⟨by rfl, fun w hS => by go_simp⟩) hHeld ?_
      simp only [Act.put, List.setIfInBounds_toArray, List.set_cons_zero, List.set_cons_succ]
      refine wpAnyH_done (by kernel_rfl) ?_ _
      clear hHeld
      clear HHA HHB
      by_cases h0 : t = 0
      · subst h0
        obtain rfl : m = l := hm0.out rfl
        have HKP : Keep (∀ wx, AS w gw g5 ch vb m m wx → Calls Try.prog 26 #[.slice (some ⟨gw, 0, none⟩) (N + 8) (N + 8), .slice ba N bc] wx fun e w' => e = .returned (.bool true) ∧ Below wx.heap.size wx w') := ⟨fun wx h => by
          have h1 := kept3_any gw vb m wx h.wd h.r (by rw [← hN.out]; omega)
          rw [← hN.out, hvb.out] at h1
          refine h1.mono ?_
          rintro e w' ⟨rfl, q, rfl⟩
          exact ⟨rfl, below_drewN (Below.refl _ _) q⟩⟩
        clear hm0 hm1 hlt'
        rw [show ((0 : Nat) : Int) = 0 from rfl]
        go_wp2_with (first | (go_at_call 24; refine (HRR.out _ HA.out).mono ?_; rintro e w' ⟨rfl, rfl⟩) | (go_at_call 25; refine (HCR.out _ HA.out).mono ?_; rintro e w' ⟨rfl, rfl⟩))
        refine (HKP.out _ HA.out).mono ?_
        rintro e w10 ⟨rfl, hb10⟩
        have HA1 := Keep.mk (HA.out.more hb10)
        clear hb10 HA HKP HRR HCR
        have HW0 : Keep (Blk w10 gw 5 (bv (flL 255 (m.take 0) ++ m.drop 0 ++ mk8 8)).toArray) := ⟨by have := HA1.out.wd; simpa [Wd, flL] using this⟩
        go_wp2_with fail
        go_loopw [17] (fun i wr => ∃ j : Nat, j ≤ N ∧ i = .int .i64 j ∧ Blk wr gw 5 (bv (flL 255 (m.take j) ++ m.drop j ++ mk8 8)).toArray ∧ Grown w10 wr fun k => k = gw) (fun i _ => N - (intOf i).toNat)
        case atStart => exact ⟨0, by omega, rfl, HW0.out, Grown.refl _ _⟩
        case round =>
          clear HW0
          obtain ⟨j, hj, rfl, hB, hG⟩ := hrel
          by_cases hlj : j < N
          · have hlj' : (j : Int) < N := by omega
            have hlj2 : (j : Int) < ((N + 8 : Nat) : Int) := by omega
            have hjl : j < m.length := by rw [← hN.out]; exact hlj
            have cc := flip_cell hB hjl
            have ff := hB.frozen j
            have HBn := Keep.mk (hB.set j (.int .u8 (bits .xor .u8 (m.getD j 0) 255)))
            rw [flip_next 255 m j hjl _ rfl] at HBn
            have HGn := Keep.mk (hG.trans (Grown.setCell wr gw j (.int .u8 (bits .xor .u8 (m.getD j 0) 255)) (S := fun k => k = gw) fun _ => rfl))
            clear hB hG
            generalize m.getD j 0 = z at *
            go_wp2
            go_roundw
            case rel => exact ⟨j + 1, by omega, by go_num, HBn.out, HGn.out⟩
            case measure => simp only [intOf]; omega
          · obtain rfl : j = N := by omega
            have HW : Keep (Wd wr gw (flL 255 m)) := ⟨by simpa [Wd, hN.out] using hB⟩
            have HAn : Keep (AS w gw g5 ch vb m (flL 255 m) wr) := ⟨⟨HW.out, hG.blk HA1.out.g hn5, HA1.out.r.grown hG (fun b hb hlb e => by
              have h2 := HA1.out.r.below (Below.refl _ _)
              exact (HR2.out b hb) (by rw [e]; exact hgew)), HA1.out.B.trans (hG.to_below (fun k hk e => by omega) HA1.out.B.size)⟩⟩
            clear hB hG HW
            go_wp2
            go_roundw
            case rel => exact ⟨1, by omega, by go_num, by rw [if_neg (by omega)]; exact HAn.out⟩
            case measure => simp only [intOf]; omega
      · obtain rfl : t = 1 := by omega
        obtain rfl : m = flL 255 l := hm1.out h0
        clear hm0 hm1 h0 hlt'
        rw [show ((1 : Nat) : Int) = 1 from rfl]
        go_wp2_with (first | (go_at_call 24; refine (HRR.out _ HA.out).mono ?_; rintro e w' ⟨rfl, rfl⟩) | (go_at_call 25; refine (HCR.out _ HA.out).mono ?_; rintro e w' ⟨rfl, rfl⟩))
        go_roundw
        case rel => exact ⟨2, by omega, by go_num, by rw [if_neg (by omega)]; exact HA.out⟩
        case measure => simp only [intOf]; omega
    · obtain rfl : t = 2 := by omega
      rw [show ((2 : Nat) : Int) = 2 from rfl]
      have HB := Keep.mk hA.B
      clear hA
      go_wp2
      go_ret
      exact ⟨rfl, HB.out⟩

end Go.Proofs.Ytfheinghkigocaa
namespace Go.Proofs.Ytfheinghkigocaa
open Go.RowKit

theorem row_head {w : World} {v g1 : Value} {n k : Nat} {m : Int} {va : Option Addr} {vc : Nat} (hv : v = .slice va n vc) (h0 : ∀ a, va = some a → a.off = 0 ∧ a.spot = none) (hnv : va = none → n = 0 ∧ vc = 0) (hle : n ≤ vc) (h : OwnT w g1 (List.replicate (n + k) m)) (he : g1.ownBlock = v.ownBlock) : RowAt w v (List.replicate n m) := by
  subst hv
  cases va with
  | none => obtain ⟨rfl, rfl⟩ := hnv rfl; exact .inl ⟨rfl, rfl⟩
  | some a =>
    obtain ⟨h1, h2⟩ := h0 a rfl
    obtain ⟨b, o, sp⟩ := a
    simp only at h1 h2
    subst h1 h2
    refine .inr (.inr ⟨b, 0, vc, by simp, by simpa using hle, fun i hi => ?_⟩)
    simp only [List.length_replicate] at hi
    have h5 := h
    rcases h5 with ⟨e, e2⟩ | ⟨g', cap', cur, fz, e, hb, _⟩
    · have := congrArg List.length e2; simp at this; omega
    · rw [e] at he h
      simp [Value.ownBlock] at he
      subst he
      have := (h.cells i (by simp; omega)).1
      rw [Nat.zero_add, this]
      simp [List.getD_eq_getElem?_getD, hi, show i < n + k by omega]

structure G2 (wL : World) (vb g : Value) (n t : Nat) (m : Int) (w : World) : Prop where
  own : OwnT w g (List.replicate (n + t) m)
  row : RowAt w vb (List.replicate n m)
  typ : ∀ k, vb.ownBlock = some k → Typ w k 5
  pos : g.ownBlock = vb.ownBlock ∨ ∃ k, g.ownBlock = some k ∧ wL.heap.size ≤ k
  gr : Grown wL w fun k => vb.ownBlock = some k
theorem G2.next {wL wx w' : World} {vb g v' : Value} {n t : Nat} {m : Int} {va : Option Addr} {vc : Nat} {l0 : List Int} (h : G2 wL vb g n t m wx) (hv : vb = .slice va n vc) (hO : OwnT wL vb l0) (o : Obj) (hp : AppPostT (wx.alloc o) g (List.replicate (n + t) m ++ [m]) v' w') : G2 wL vb v' n (t + 1) m w' := by
  have hO' := hO
  rw [hv] at hO'
  obtain ⟨p1, p2, p3, _⟩ := hO'.plain
  have hown : OwnT w' v' (List.replicate (n + (t + 1)) m) := by
    have e : List.replicate (n + (t + 1)) m = List.replicate (n + t) m ++ [m] := by rw [← Nat.add_assoc, List.replicate_succ']
    rw [e]; exact hp.1
  have hgL : Grown wL (wx.alloc o) fun k => vb.ownBlock = some k := h.gr.next (Grown.alloc wx o fun _ => False) fun _ _ h => h.elim
  have hrow : RowAt (wx.alloc o) vb (List.replicate n m) := h.row.below (below_new wx o)
  have hgr : Grown wL w' fun k => vb.ownBlock = some k := hgL.next hp.grown fun i hi e => by
    rcases h.pos with h1 | ⟨k, h1, h2⟩
    · rw [← h1]; exact e
    · rw [h1] at e; injection e with e; omega
  have htyp : ∀ k, vb.ownBlock = some k → Typ (wx.alloc o) k 5 := fun k hk => (Grown.alloc wx o fun _ => False).typ (h.typ k hk) fun h => h
  rcases hp.2 with ⟨e1, g1⟩ | ⟨e1, g1⟩
  · by_cases hs : g.ownBlock = vb.ownBlock
    · exact ⟨hown, row_head hv p1 p2 p3 hown (e1.trans hs), fun k hk => hown.typ ((e1.trans hs).trans hk), .inl (e1.trans hs), hgr⟩
    · refine ⟨hown, hrow.grown g1 fun b hb _ e => hs (e.trans hb.symm), fun k hk => g1.typ (htyp k hk) fun e => hs (e.trans hk.symm), ?_, hgr⟩
      rcases h.pos with h1 | h1
      · exact absurd h1 hs
      · rw [e1]; exact .inr h1
  · exact ⟨hown, hrow.below g1, fun k hk => (Grown.below (S := fun _ => False) g1).typ (htyp k hk) fun h => h, .inr ⟨_, e1, hgL.size⟩, hgr⟩

theorem fill_next (l : List Int) (t : Nat) (m : Int) (h : t < l.length) : (List.replicate t m ++ l.drop t).set t m = List.replicate (t + 1) m ++ l.drop (t + 1) := by
  apply List.ext_getElem?
  intro i
  rw [List.getElem?_set]
  simp only [List.getElem?_append, List.length_append, List.length_replicate, List.length_drop, List.getElem?_replicate, List.getElem?_drop]
  by_cases h1 : t = i
  · subst h1
    rw [if_pos rfl, if_pos (by omega), if_pos (by omega), if_pos (by omega)]
  · rw [if_neg h1]
    by_cases h2 : i < t
    · rw [if_pos h2, if_pos h2, if_pos (by omega), if_pos (by omega)]
    · rw [if_neg h2, if_neg (by omega), show t + (i - t) = t + 1 + (i - (t + 1)) by omega]

end Go.Proofs.Ytfheinghkigocaa
namespace Go.Proofs.Ytfheinghkigocaa
open Go.RowKit

/-- A table of lists, each of which owns its bytes. -/
structure Fil (w0 : World) (gl m : Nat) (V : Nat → Value) (Ls : Nat → List Int) (w : World) : Prop where
  tab : Blk w gl 35 ((List.range m).map V).toArray
  own : ∀ j, j < m → OwnT w (V j) (Ls j)
  gr : Grown w0 w fun k => ∃ j, j < m ∧ (V j).ownBlock = some k
def Sep (m : Nat) (V : Nat → Value) : Prop := ∀ i j, i < m → j < m → i ≠ j → ∀ k, (V i).ownBlock = some k → (V j).ownBlock ≠ some k
theorem Fil.at {w0 w : World} {gl m : Nat} {V : Nat → Value} {Ls : Nat → List Int} (h : Fil w0 gl m V Ls w) {t : Nat} (ht : t < m) : w.cell? ⟨gl, t, none⟩ = some (V t) := by
  rw [h.tab.cell, List.getElem?_toArray]; simp [ht]
theorem Fil.set {w0 w : World} {gl m : Nat} {V : Nat → Value} {Ls : Nat → List Int} (h : Fil w0 gl m V Ls w) (hs : Sep m V) {t : Nat} (ht : t < m) {g n cap : Nat} (hv : V t = .slice (some ⟨g, 0, none⟩) n cap) (u : Nat) (c : Int) : Fil w0 gl m V (updN Ls t ((Ls t).set u c)) (w.setCell ⟨g, u, none⟩ (.int .u8 c)) := by
  have hg : (V t).ownBlock = some g := by rw [hv]; rfl
  have hO := h.own t ht
  have hgg : Grown w (w.setCell ⟨g, u, none⟩ (.int .u8 c)) fun k => k = g := Grown.setCell w g u _ fun _ => rfl
  refine ⟨hgg.blk h.tab fun e => ?_, fun j hj => ?_, h.gr.next hgg fun i _ e => ⟨t, ht, by rw [hg, e]⟩⟩
  · exact hO.ne h.tab (by decide) (by rw [hg, e])
  · by_cases e : j = t
    · subst e
      rw [updN_self, hv]
      rw [hv] at hO
      exact hO.set u c
    · rw [updN_ne _ _ e]
      exact (h.own j hj).grown hgg fun k hk e2 => hs t j ht hj (fun e3 => e e3.symm) g hg (by rw [hk, e2])
theorem Fil.more {w0 w w' : World} {gl m : Nat} {V : Nat → Value} {Ls : Nat → List Int} (h : Fil w0 gl m V Ls w) (hb : Below w.heap.size w w') : Fil w0 gl m V Ls w' :=
  ⟨h.tab.below hb h.tab.lt, fun j hj => (h.own j hj).grown (Grown.below (S := fun _ => False) hb) fun _ _ h => h, h.gr.next (Grown.below (S := fun _ => False) hb) fun _ _ h => h.elim⟩
/-- Some lists made longer. -/
structure Lng (w0 : World) (gl m : Nat) (V : Nat → Value) (n : Nat → Nat) (t : Nat) (lo : Value) (X : Nat → Value) (F : Nat → Prop) (w : World) : Prop where
  tab : Blk w gl 35 ((List.range m).map V).toArray
  own : ∀ j, t ≤ j → j < m → OwnT w (V j) (List.replicate (n j) ((j : Int) + 1))
  ra : ∀ j, j < t → RowAt w (V j) (List.replicate (n j) ((j : Int) + 1))
  rb : ∀ j, j < t → RowAt w (X j) (List.replicate (n j + 70) ((j : Int) + 1))
  fa : ∀ j, j < t → ∀ k, (V j).ownBlock = some k → F k
  fb : ∀ j, j < t → ∀ k, (X j).ownBlock = some k → F k
  fo : ∀ j, t ≤ j → j < m → ∀ k, (V j).ownBlock = some k → ¬ F k
  ft : ∀ k, F k → Typ w k 5
  lg : OwnV w lo ((List.range t).map X)
  lk : ∀ k, lo.ownBlock = some k → w0.heap.size ≤ k
  gl0 : gl < w0.heap.size
  gr : Grown w0 w fun k => ∃ j, j < m ∧ (V j).ownBlock = some k
theorem Lng.at {w0 w : World} {gl m : Nat} {V : Nat → Value} {n : Nat → Nat} {t : Nat} {lo : Value} {X : Nat → Value} {F : Nat → Prop} (h : Lng w0 gl m V n t lo X F w) {j : Nat} (hj : j < m) : w.cell? ⟨gl, j, none⟩ = some (V j) := by
  rw [h.tab.cell, List.getElem?_toArray]; simp [hj]
theorem Fil.lng {w0 w : World} {gl m : Nat} {V : Nat → Value} {n : Nat → Nat} (h : Fil w0 gl m V (fun j => List.replicate (n j) ((j : Int) + 1)) w) (h0 : gl < w0.heap.size) (hs : w0.heap.size ≤ w.heap.size) : Lng w0 gl m V n 0 (.slice (some ⟨w.heap.size, 0, none⟩) 0 0) (fun _ => .nilIface) (fun _ => False) (w.alloc (.cells #[] 35)) := by
  have h1 := h.more (below_new w (.cells #[] 35))
  refine ⟨h1.tab, fun j _ hj => h1.own j hj, fun j hj => by omega, fun j hj => by omega, fun j hj => by omega, fun j hj => by omega, fun _ _ _ _ _ h => h, fun _ h => h.elim, ?_, fun k hk => by simp [Value.ownBlock] at hk; omega, h0, h1.gr⟩
  exact ⟨rfl, .inr ⟨w.heap.size, 0, #[], rfl, Nat.zero_le _, Blk.new w 35 _, by simp, by unfold maxLen; omega, by simp, by simp⟩⟩
/-- One more. -/
theorem Lng.next {w0 w wi w' : World} {gl m : Nat} {V : Nat → Value} {n : Nat → Nat} {t : Nat} {lo lo' x : Value} {X : Nat → Value} {F : Nat → Prop} (h : Lng w0 gl m V n t lo X F w) (hs : Sep m V) (ht : t < m)
    (hG : G2 w (V t) x (n t) 70 ((t : Int) + 1) wi) (hO : OwnV w' lo' ((List.range t).map X ++ [x])) (hM : Moved (wi.alloc (.cells #[x] 35)) lo lo') (hg : Grown (wi.alloc (.cells #[x] 35)) w' fun k => lo.ownBlock = some k) :
    Lng w0 gl m V n (t + 1) lo' (updN X t x) (fun k => F k ∨ (V t).ownBlock = some k ∨ x.ownBlock = some k) w' := by
  have hOt := h.own t (Nat.le_refl _) ht
  have lt0 : ∀ k, lo.ownBlock = some k → k < w.heap.size := h.lg.lt
  have tl : ∀ k, Typ w k 5 → lo.ownBlock ≠ some k := fun k hk e => absurd (hk.one (h.lg.typ e)) (by decide)
  -- the two steps, together
  have hg1 : Grown w (wi.alloc (.cells #[x] 35)) fun k => (V t).ownBlock = some k := hG.gr.next (Grown.alloc wi _ fun _ => False) fun _ _ h => h.elim
  have hg2 : Grown w w' fun k => (V t).ownBlock = some k ∨ lo.ownBlock = some k := (hg1.mono fun k _ h => .inl h).next hg fun k _ h => .inr h
  have hX : OwnT w' x (List.replicate (n t + 70) ((t : Int) + 1)) := by
    have h1 := hG.own.box (.cells #[x] 35)
    refine h1.grown hg fun k hk e => ?_
    rcases hG.pos with h2 | ⟨k2, h2, h3⟩
    · exact tl k (hOt.typ (by rw [← h2]; exact hk)) e
    · have := lt0 k e; rw [h2] at hk; injection hk with hk; omega
  have hVt : RowAt w' (V t) (List.replicate (n t) ((t : Int) + 1)) := by
    have h1 := hG.row.below (below_new wi (.cells #[x] 35))
    exact h1.grown hg fun k hk _ e => tl k (hOt.typ hk) e
  have hVty : ∀ k, (V t).ownBlock = some k → Typ w' k 5 := fun k hk => hg.typ ((Grown.alloc wi (.cells #[x] 35) fun _ => False).typ (hG.typ k hk) fun h => h) fun e => tl k (hOt.typ hk) e
  have nF : ∀ k, F k → ¬ ((V t).ownBlock = some k ∨ lo.ownBlock = some k) := fun k hk h1 => by
    rcases h1 with h1 | h1
    · exact h.fo t (Nat.le_refl _) ht k h1 hk
    · exact tl k (h.ft k hk) h1
  refine ⟨?_, fun j hj hjm => ?_, fun j hj => ?_, fun j hj => ?_, fun j hj k hk => ?_, fun j hj k hk => ?_, fun j hj hjm k hk hF => ?_, fun k hF => ?_, ?_, fun k hk => ?_, h.gl0, ?_⟩
  · refine hg2.blk h.tab fun e => ?_
    rcases e with e | e
    · exact hOt.ne h.tab (by decide) e
    · have := h.lk gl e; have := h.gl0; omega
  · refine (h.own j (by omega) hjm).grown hg2 fun k hk e => ?_
    rcases e with e | e
    · exact hs t j ht hjm (by omega) k e hk
    · exact tl k ((h.own j (by omega) hjm).typ hk) e
  · by_cases e : j = t
    · subst e; exact hVt
    · exact (h.ra j (by omega)).grown hg2 fun k hk _ => nF k (h.fa j (by omega) k hk)
  · by_cases e : j = t
    · subst e; rw [updN_self]; exact hX.row
    · rw [updN_ne _ _ e]; exact (h.rb j (by omega)).grown hg2 fun k hk _ => nF k (h.fb j (by omega) k hk)
  · by_cases e : j = t
    · subst e; exact .inr (.inl hk)
    · exact .inl (h.fa j (by omega) k hk)
  · by_cases e : j = t
    · subst e; rw [updN_self] at hk; exact .inr (.inr hk)
    · rw [updN_ne _ _ e] at hk; exact .inl (h.fb j (by omega) k hk)
  · rcases hF with hF | hF | hF
    · exact h.fo j (by omega) hjm k hk hF
    · exact hs t j ht hjm (by omega) k hF hk
    · rcases hG.pos with h2 | ⟨k2, h2, h3⟩
      · rw [h2] at hF; exact hs t j ht hjm (by omega) k hF hk
      · rw [h2] at hF; injection hF with hF
        have := (h.own j (by omega) hjm).lt k hk
        omega
  · rcases hF with hF | hF | hF
    · exact hg2.typ (h.ft k hF) (nF k hF)
    · exact hVty k hF
    · exact hX.typ hF
  · rw [range_upd]; exact hO
  · rcases hM with e | ⟨k2, e, h2⟩
    · rw [e] at hk; exact h.lk k hk
    · rw [e] at hk; injection hk with hk
      have h3 := h.gr.size; have h4 := hg1.size
      omega
  · refine h.gr.next hg2 fun k hk e => ?_
    rcases e with e | e
    · exact ⟨t, ht, e⟩
    · have := h.lk k e; omega
end Go.Proofs.Ytfheinghkigocaa
namespace Go.Proofs.Ytfheinghkigocaa
open Go.RowKit

theorem OwnT.slN {w : World} {v : Value} {l : List Int} (h : OwnT w v l) : ∃ a c, v = .slice a l.length c := by
  obtain ⟨a, n, c, rfl⟩ := h.sl
  exact ⟨a, c, by rw [h.plain.2.2.2]⟩
theorem row_at {w : World} {v : Value} {n : Nat} {c : Int} {a : Option Addr} {k : Nat} (h : RowAt w v (List.replicate n c)) (hv : v = .slice a n k) {u : Nat} (hu : u < n) : ∃ b off, a = some ⟨b, off, none⟩ ∧ w.cell? ⟨b, off + u, none⟩ = some (.int .u8 c) := by
  rcases h with ⟨e1, e2⟩ | ⟨_, _, e1, e2⟩ | ⟨b, off, cap, e1, hcap, hc⟩
  · have := congrArg List.length e2; simp at this; omega
  · have := congrArg List.length e2; simp at this; omega
  · rw [hv] at e1
    injection e1 with e1 e2 e3
    refine ⟨b, off, e1, ?_⟩
    rw [hc u (by simpa using hu)]
    simp [List.getD_eq_getElem?_getD, hu]
theorem row_n {w : World} {v : Value} {n : Nat} {c : Int} (h : RowAt w v (List.replicate n c)) : ∃ a k, v = .slice a n k := by
  obtain ⟨a, k, e⟩ := row_form h
  rw [List.length_replicate] at e
  exact ⟨a, k, e⟩

set_option maxRecDepth 8000 in
set_option maxHeartbeats 2000000 in
theorem grown_any (gl m : Nat) (V : Nat → Value) (L0 : Nat → List Int) (w : World) (hF : Fil w gl m V L0 w) (hs : Sep m V) (hm : m ≤ 200) (hn : ∀ j, j < m → (L0 j).length + 71 ≤ 140737488355328) :
    Calls Try.prog 18 #[.slice (some ⟨gl, 0, none⟩) m m] w fun e w' => e = .returned (.bool true) ∧ Grown w w' fun k => ∃ j, j < m ∧ (V j).ownBlock = some k := by
  have HF := Keep.mk hF
  have HS := Keep.mk hs
  have HN := Keep.mk hn
  have HG0 : Keep (gl < w.heap.size) := ⟨hF.tab.lt⟩
  have hmI : (m : Int) ≤ 200 := by omega
  obtain ⟨n, hnn⟩ : ∃ n : Nat → Nat, Keep (∀ j, n j = (L0 j).length) := ⟨fun j => (L0 j).length, ⟨fun _ => rfl⟩⟩
  clear hF hs hn hm
  go_enter Try.func18, Try.ntmps18
  go_wp2_with fail
  go_loopw [3] (fun i wr => ∃ (t : Nat) (Ls : Nat → List Int), t ≤ m ∧ i = .int .i64 t ∧ Keep ((∀ j, j < t → Ls j = List.replicate (n j) ((j : Int) + 1)) ∧ ∀ j, (Ls j).length = n j) ∧ Fil w gl m V Ls wr) (fun i _ => m - (intOf i).toNat)
  case atStart => exact ⟨0, L0, by omega, rfl, ⟨fun j hj => by omega, fun j => (hnn.out j).symm⟩, HF.out⟩
  case round =>
    clear HF
    obtain ⟨t, Ls, ht, rfl, HL, hF⟩ := hrel
    by_cases hlt : t < m
    · have hlt' : (t : Int) < (m : Int) := by omega
      have hwr : IntKind.u8.wrap ((t : Int) + 1) = (t : Int) + 1 := by rw [IntKind.wrap_u8]; omega
      obtain ⟨va, vc, hv⟩ := (hF.own t hlt).slN
      rw [HL.out.2 t] at hv
      have HV := Keep.mk hv
      have HNt : Keep (n t + 71 ≤ 140737488355328) := ⟨by have := HN.out t hlt; rw [← hnn.out t] at this; exact this⟩
      have HF1 : Keep (Fil w gl m V (updN Ls t (List.replicate 0 ((t : Int) + 1) ++ (Ls t).drop 0)) wr) := ⟨by
        have e : updN Ls t (List.replicate 0 ((t : Int) + 1) ++ (Ls t).drop 0) = Ls := by
          funext j
          by_cases e : j = t
          · subst e; rw [updN_self]; simp
          · rw [updN_ne _ _ e]
        rw [e]; exact hF⟩
      have hnI : (n t : Int) ≤ 140737488355328 := by have := HNt.out; omega
      clear hF hv
      go_wp2_with fail
      go_loopw [4] (fun k wi => ∃ u : Nat, u ≤ n t ∧ k = .int .i64 (u : Int) ∧ Fil w gl m V (updN Ls t (List.replicate u ((t : Int) + 1) ++ (Ls t).drop u)) wi) (fun k _ => n t - (intOf k).toNat)
      case atStart => exact ⟨0, by omega, rfl, HF1.out⟩
      case round =>
        clear HF1
        rename_i k wi
        obtain ⟨u, hu, rfl, hF⟩ := hrel
        have ct := hF.at hlt
        rw [HV.out] at ct
        by_cases hul : u < n t
        · have hul' : (u : Int) < (n t : Int) := by omega
          have hO := hF.own t hlt
          rw [updN_self] at hO
          have hlen : (List.replicate u ((t : Int) + 1) ++ (Ls t).drop u).length = n t := by
            rw [List.length_append, List.length_replicate, List.length_drop, HL.out.2 t]; omega
          have hO2 := hO
          rw [HV.out] at hO2
          obtain ⟨g, rfl⟩ := hO2.addr (by rw [hlen]; omega)
          obtain ⟨cc, ff⟩ := hO2.cells u (by rw [hlen]; exact hul)
          have HF2 := Keep.mk (hF.set HS.out hlt HV.out u ((t : Int) + 1))
          rw [updN_self, fill_next (Ls t) u ((t : Int) + 1) (by rw [HL.out.2 t]; exact hul)] at HF2
          have hup : ∀ y, updN (updN Ls t (List.replicate u ((t : Int) + 1) ++ (Ls t).drop u)) t y = updN Ls t y := fun y => by
            funext j
            by_cases e : j = t
            · subst e; rw [updN_self, updN_self]
            · rw [updN_ne _ _ e, updN_ne _ _ e, updN_ne _ _ e]
          rw [hup] at HF2
          generalize (List.replicate u ((t : Int) + 1) ++ (Ls t).drop u).getD u 0 = z at *
          clear hF hO hO2 hlen hup
          go_wp2
          go_roundw
          case rel => exact ⟨u + 1, by omega, by go_num, HF2.out⟩
          case measure => simp only [intOf]; omega
        · obtain rfl : u = n t := by omega
          have hul' : ¬ ((n t : Int) < (n t : Int)) := by omega
          have HF2 := Keep.mk hF
          clear hF
          go_wp2
          go_roundw
          case rel =>
            refine ⟨t + 1, _, by omega, by go_num, ⟨fun j hj => ?_, fun j => ?_⟩, HF2.out⟩
            · by_cases e : j = t
              · subst e; rw [updN_self, List.drop_of_length_le (by rw [HL.out.2 j]; exact Nat.le_refl _), List.append_nil]
              · rw [updN_ne _ _ e]; exact HL.out.1 j (by omega)
            · by_cases e : j = t
              · subst e; rw [updN_self, List.length_append, List.length_replicate, List.length_drop, HL.out.2 j]; omega
              · rw [updN_ne _ _ e]; exact HL.out.2 j
          case measure => simp only [intOf]; omega
    · obtain rfl : t = m := by omega
      have hlt' : ¬ ((t : Int) < (t : Int)) := by omega
      have HF2 : Keep (Lng w gl t V n 0 (.slice (some ⟨wr.heap.size, 0, none⟩) 0 0) (fun _ => .nilIface) (fun _ => False) (wr.alloc (.cells #[] 35))) := ⟨Fil.lng ⟨hF.tab, fun j hj => by have h := hF.own j hj; rw [HL.out.1 j hj] at h; exact h, hF.gr⟩ HG0.out hF.gr.size⟩
      clear hF HL
      go_wp2_with fail
      generalize wr.alloc (.cells #[] 35) = w5 at *
      obtain ⟨lo0, hlo0⟩ : ∃ lo0, Keep (lo0 = Value.slice (some ⟨wr.heap.size, 0, none⟩) 0 0) := ⟨_, ⟨rfl⟩⟩
      go_loopw [5, 6] (fun lo i wr => ∃ (u : Nat) (lo1 : Value) (X : Nat → Value) (F : Nat → Prop), u ≤ t ∧ lo = lo1 ∧ i = .int .i64 (u : Int) ∧ Lng w gl t V n u lo1 X F wr) (fun _ i _ => t - (intOf i).toNat)
      case atStart => exact ⟨0, _, _, _, by omega, rfl, rfl, HF2.out⟩
      case round =>
        clear HF2 hlo0
        obtain ⟨u, lo, X, F, hu, hlo, rfl, hL⟩ := hrel
        have hlo := hlo.symm
        subst hlo
        obtain ⟨wq, rfl⟩ : ∃ wq, wq = wr := ⟨_, rfl⟩
        by_cases hul : u < t
        · have hul' : (u : Int) < (t : Int) := by omega
          have hwr : IntKind.u8.wrap ((u : Int) + 1) = (u : Int) + 1 := by rw [IntKind.wrap_u8]; omega
          have HNu : Keep (n u + 71 ≤ 140737488355328) := ⟨by have := HN.out u hul; rw [← hnn.out u] at this; exact this⟩
          have ct := hL.at hul
          have hO := hL.own u (Nat.le_refl _) hul
          obtain ⟨va, vc, hv⟩ := hO.slN
          rw [List.length_replicate] at hv
          have HV := Keep.mk hv
          have HOu := Keep.mk hO
          rw [hv] at ct
          have HL := Keep.mk hL
          have HG : Keep (G2 wq (V u) (.slice va (n u) vc) (n u) 0 ((u : Int) + 1) wq) := ⟨⟨by rw [← hv]; exact hO, hO.row, fun k hk => hO.typ hk, .inl (by rw [hv]), Grown.refl _ _⟩⟩
          clear hL hO hv
          go_wp2_with fail
          go_loopw [7, 8] (fun x k wi => ∃ (y : Nat) (x1 : Value), y ≤ 70 ∧ x = x1 ∧ k = .int .i64 (y : Int) ∧ G2 wq (V u) x1 (n u) y ((u : Int) + 1) wi) (fun _ k _ => 70 - (intOf k).toNat)
          case atStart => exact ⟨0, _, by omega, rfl, rfl, HG.out⟩
          case round =>
            clear HG ct
            obtain ⟨y, x, hy, rfl, rfl, hG⟩ := hrel
            obtain ⟨wi, rfl⟩ : ∃ wi, wi = wr := ⟨_, rfl⟩
            obtain ⟨xa, xn, xc, rfl⟩ := hG.own.sl
            by_cases hyl : y < 70
            · have hyl' : (y : Int) < 70 := by omega
              have HG := Keep.mk hG
              have HO1 := Keep.mk (hG.own.box (.cells #[.int .u8 ((u : Int) + 1)] 5))
              have hlen : Keep ((List.replicate (n u + y) ((u : Int) + 1)).length + 1 ≤ 140737488355328) := ⟨by rw [List.length_replicate]; have := HNu.out; omega⟩
              have HC1 : Keep ((wi.alloc (.cells #[.int .u8 ((u : Int) + 1)] 5)).cell? ⟨wi.heap.size, 0, none⟩ = some (.int .u8 ((u : Int) + 1))) := ⟨by rw [(Blk.new wi 5 #[.int .u8 ((u : Int) + 1)]).cell]; rfl⟩
              clear hG
              go_wp2_with (first | (at_builtin; refine wpList_appT rfl (.tmp 50) (.tmp 54) rfl (.slice xa xn xc) (List.replicate (n u + y) ((u : Int) + 1)) wi.heap.size ((u : Int) + 1) rfl rfl HO1.out HC1.out hlen.out ?_; intro v' w' hp; refine Hid.out ?_))
              refine hid_in ?_
              have HG2 := Keep.mk (HG.out.next HV.out HOu.out _ hp)
              clear hp HG HO1 HC1
              go_wp2
              go_roundw
              case rel => exact ⟨y + 1, _, by omega, rfl, by go_num, HG2.out⟩
              case measure => simp only [intOf]; omega
            · obtain rfl : y = 70 := by omega
              have HG := Keep.mk hG
              have HOl : Keep (OwnV (wi.alloc (.cells #[.slice xa xn xc] 35)) lo ((List.range u).map X)) := ⟨(HL.out.lg.grown hG.gr fun k hk e => absurd ((HOu.out.typ e).one (HL.out.lg.typ hk)) (by decide)).grown (Grown.alloc wi _ fun _ => False) fun _ _ h => h⟩
              have HC1 : Keep ((wi.alloc (.cells #[.slice xa xn xc] 35)).cell? ⟨wi.heap.size, 0, none⟩ = some (.slice xa xn xc)) := ⟨by rw [(Blk.new wi 35 #[.slice xa xn xc]).cell]; rfl⟩
              clear hG
              go_wp2_with (first | (at_builtin; refine wpList_appV rfl (.tmp 56) (.tmp 58) rfl lo (.slice xa xn xc) ((List.range u).map X) wi.heap.size rfl rfl rfl HOl.out HC1.out (by simp; omega) ?_; intro v' w' hp1 hp2 hp3; refine Hid.out ?_))
              refine hid_in ?_
              have HL2 := Keep.mk (HL.out.next HS.out hul HG.out hp1 hp2 hp3)
              clear hp1 hp2 hp3 HOl HC1 HG HL
              go_wp2
              go_roundw
              case rel => exact ⟨u + 1, _, _, _, by omega, rfl, by go_num, HL2.out⟩
              case measure => simp only [intOf]; omega
        · obtain rfl : u = t := by omega
          have hul' : ¬ ((u : Int) < (u : Int)) := by omega
          have HL := Keep.mk hL
          clear hL
          go_wp2_with fail
          obtain ⟨lb, lc, hlo⟩ := HL.out.lg.sl
          rw [List.length_map, List.length_range] at hlo
          subst hlo
          obtain ⟨wz, rfl⟩ : ∃ wz, wz = wq := ⟨_, rfl⟩
          go_loop [9] (fun i => ∃ p : Nat, p ≤ u ∧ i = .int .i64 (p : Int)) (fun i => u - (intOf i).toNat)
          case atStart => exact ⟨0, by omega, rfl⟩
          case round =>
            obtain ⟨p, hp, rfl⟩ := hrel
            by_cases hpl : p < u
            · have hpl' : (p : Int) < (u : Int) := by omega
              have hwr : IntKind.u8.wrap ((p : Int) + 1) = (p : Int) + 1 := by rw [IntKind.wrap_u8]; omega
              have hnp : (n p : Int) ≤ 140737488355257 := by have := HN.out p hpl; have := hnn.out p; omega
              have cV := HL.out.at hpl
              obtain ⟨va, vc, hva⟩ := row_n (HL.out.ra p hpl)
              obtain ⟨xa, xc, hxa⟩ := row_n (HL.out.rb p hpl)
              obtain ⟨gx, cx, hgx, hcx⟩ := HL.out.lg.at p (by simp; exact hpl)
              rw [List.length_map, List.length_range] at hgx
              injection hgx with hgx1 hgx2 hgx3
              subst hgx1 hgx3
              have cX : wz.cell? ⟨gx, p, none⟩ = some (X p) := by rw [hcx]; simp [hpl]
              have HVp := Keep.mk hva
              have HXp := Keep.mk hxa
              rw [hva] at cV
              rw [hxa] at cX
              clear hva hxa hcx hgx2
              go_wp2_with fail
              go_loop [10] (fun k => ∃ y : Nat, y ≤ n p + 70 ∧ k = .int .i64 (y : Int)) (fun k => n p + 70 - (intOf k).toNat)
              case atStart => exact ⟨0, by omega, rfl⟩
              case round =>
                obtain ⟨y, hy, rfl⟩ := hrel
                by_cases hyl : y < n p + 70
                · have hyl' : (y : Int) < (n p : Int) + 70 := by omega
                  obtain ⟨xb, xo, hxb, cY⟩ := row_at (HL.out.rb p hpl) HXp.out hyl
                  subst hxb
                  by_cases hyv : y < n p
                  · have hyv' : (y : Int) < (n p : Int) := by omega
                    obtain ⟨vb, vo, hvb, cW⟩ := row_at (HL.out.ra p hpl) HVp.out hyv
                    subst hvb
                    go_wp2
                    refine ⟨⟨y + 1, by omega, by go_num⟩, by simp only [intOf]; omega⟩
                  · have hyv' : ¬ ((y : Int) < (n p : Int)) := by omega
                    go_wp2
                    refine ⟨⟨y + 1, by omega, by go_num⟩, by simp only [intOf]; omega⟩
                · obtain rfl : y = n p + 70 := by omega
                  have hyl' : ¬ ((n p : Int) + 70 < (n p : Int) + 70) := by omega
                  go_wp2
                  refine ⟨⟨p + 1, by omega, by go_num⟩, by simp only [intOf]; omega⟩
            · obtain rfl : p = u := by omega
              have hpl' : ¬ ((p : Int) < (p : Int)) := by omega
              have HGr := Keep.mk HL.out.gr
              go_wp2
              go_ret
              exact ⟨rfl, HGr.out⟩
end Go.Proofs.Ytfheinghkigocaa
