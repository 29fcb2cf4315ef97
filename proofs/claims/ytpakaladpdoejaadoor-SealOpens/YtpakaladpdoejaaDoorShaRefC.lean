import Derived.Test.YtpakaladpdoejaaDoorShaRefB
import Derived.Laws.AppendOwnNone
namespace Go.Proofs.YtpakaladpdoejaaDoor
open Go.RowKit

theorem owns_nil (w : World) (base : Nat) : w.ownsRow base 5 1 (.slice none 0 0) 0 [] := ⟨rfl, .inl ⟨rfl, rfl⟩⟩
/-- A row of bytes behind bytes of the call's own. -/
theorem wpList_appR {ops : Array Oper} {rest : List Oper} {o : Oper} {a : Act} {w : World} {Q : Exit → Act → World → Prop} (hgd : o.guard = none) (s x : Operand)
    (ho : o.op = .call { callee := .builtin .append, args := #[s, x], argTypes := #[22, 22] }) (base : Nat) (v vx : Value) (n : Nat) (xs : List Value) (l : List Int)
    (hs : a.eval s = v) (hx : a.eval x = vx) (hown : w.ownsRow base 5 1 v n xs) (hrow : RowAt w vx l) (hb : n + l.length ≤ 140737488355328) (hbase : base ≤ w.heap.size)
    (h : ∀ v' w', w'.ownsRow base 5 1 v' (n + l.length) (xs ++ bv l) → w.grownBy w' v.ownBlock → wpList Tryd.prog ops Q rest (a.put o.dst v') w') : wpList Tryd.prog ops Q (o :: rest) a w := by
  obtain ⟨i, hi, hzz⟩ := Option.map_eq_some_iff.1 Tryd.info5
  simp only [Prod.mk.injEq] at hzz
  obtain ⟨hz, hsz, hby⟩ := hzz
  rcases hrow with ⟨rfl, rfl⟩ | ⟨ad, c, rfl, rfl⟩ | ⟨b, off, cap, rfl, hcap, hc⟩
  · refine wpList_append_own_none hgd s x 22 ho base 5 i 1 Tryd.underlying22 hi v n xs hs hown hx (h v w ?_ (World.grownBy.refl w _))
    simpa [bv] using hown
  · refine wpList_append_own w hgd s x 22 ho base 5 i (.int .u8 0) 1 1 Tryd.underlying22 hi hz hsz hby rfl (by omega) v n xs hs hown ad 0 c [] hx rfl (fun j u hu => by simp at hu) (fun u hu => by simp at hu) (by unfold maxLen; simp at hb; omega) (by simp at hb; omega) hbase ?_
    intro v' w' h1 h2 _
    exact h v' w' h1 h2
  · refine wpList_append_own w hgd s x 22 ho base 5 i (.int .u8 0) 1 1 Tryd.underlying22 hi hz hsz hby rfl (by omega) v n xs hs hown ⟨b, off, none⟩ l.length cap (bv l) hx (by rw [bv_len]; omega)
      (fun j u hu => by
        have hj : j < l.length := by have := (List.getElem?_eq_some_iff.1 hu).1; rwa [bv_len] at this
        rw [bv_get l j hj] at hu
        rw [Addr.add_mid, hc j hj]; exact hu)
      (fun u hu => by simp [bv] at hu; obtain ⟨_, _, rfl⟩ := hu; rfl) (by unfold maxLen; omega) (by omega) hbase ?_
    intro v' w' h1 h2 _
    exact h v' w' h1 h2

/-- What is owned lies at the head of a row. -/
theorem owns_form {w : World} {base : Nat} {v : Value} {n : Nat} {xs : List Value} (h : w.ownsRow base 5 1 v n xs) (hn : 0 < n) : ∃ g cap, v = .slice (some ⟨g, 0, none⟩) n cap ∧ base ≤ g ∧ n ≤ cap := by
  obtain ⟨_, h2⟩ := h
  rcases h2 with ⟨_, h0⟩ | ⟨g, cap, cur, e, hg, _, hc, _⟩
  · omega
  · exact ⟨g, cap, e, hg, hc⟩
theorem owns_block {w : World} {base : Nat} {v : Value} {n : Nat} {xs : List Value} (h : w.ownsRow base 5 1 v n xs) : ∀ k, v.ownBlock = some k → base ≤ k := by
  intro k hk
  obtain ⟨_, h2⟩ := h
  rcases h2 with ⟨rfl, _⟩ | ⟨g, cap, cur, rfl, hg, _⟩
  · simp [Value.ownBlock] at hk
  · simp [Value.ownBlock] at hk; omega

set_option maxRecDepth 8000 in
set_option maxHeartbeats 1000000 in
theorem padded_any (vb : Value) (l : List Int) (w : World) (hrow : RowAt w vb l) (hl : l.length ≤ 140737488355000) :
    Calls Tryd.prog 34 #[vb] w fun e w' => ∃ v, e = .returned v ∧ w'.ownsRow w.heap.size 5 1 v (l.length + zerosF l.length + 9) (bv l ++ endL l.length 8) ∧ Below w.heap.size w w' := by
  obtain ⟨pa, pn, pc, rfl, hpn⟩ : ∃ a n c, vb = .slice a n c ∧ n = l.length := by
    rcases hrow with ⟨rfl, rfl⟩ | ⟨a, c, rfl, rfl⟩ | ⟨h, off, cap, rfl, _⟩
    · exact ⟨_, _, _, rfl, rfl⟩
    · exact ⟨_, _, _, rfl, rfl⟩
    · exact ⟨_, _, _, rfl, rfl⟩
  have HRow : Keep (RowAt w (.slice pa pn pc) l) := ⟨hrow⟩
  clear hrow
  obtain ⟨n, hn⟩ : ∃ n, Keep (n = l.length) := ⟨_, ⟨rfl⟩⟩
  rw [← hn.out] at hpn hl ⊢
  subst hpn
  go_enter Tryd.func34, Tryd.ntmps34
  go_wp2_with (first | (at_builtin; refine wpList_appR rfl _ (.tmp 6) rfl w.heap.size (.slice none 0 0) (.slice pa pn pc) 0 [] l rfl rfl (owns_nil _ _) HRow.out (by rw [← hn.out]; omega) (Nat.le_refl _) ?_; intro v1 w1 hown1 hgr1; refine Hid.out ?_))
  refine hid_in ?_
  rw [List.nil_append, Nat.zero_add, ← hn.out] at hown1
  have hB1 : Below w.heap.size w w1 := (Below.refl _ _).grown hgr1 (Nat.le_refl _) (fun k e => by simp [Value.ownBlock] at e)
  have hs1 := hB1.size
  clear hgr1
  have HR2 := row_one w1 128
  have HO2 : Keep ((w1.alloc (.cells #[.int .u8 128] 5)).ownsRow w.heap.size 5 1 v1 pn (bv l)) := ⟨hown1.alloc _⟩
  have hblk := owns_block hown1
  go_wp2_with (first | (at_builtin; refine wpList_appR rfl (.tmp 8) (.tmp 9) rfl w.heap.size v1 (.slice (some ⟨w1.heap.size, 0, none⟩) 1 1) pn (bv l) [128] rfl rfl HO2.out HR2 (by simp; omega) (by simp; omega) ?_; intro v2 w2 hown2 hgr2; refine Hid.out ?_))
  refine hid_in ?_
  have hB2 : Below w.heap.size w w2 := (hB1.alloc hs1 (.cells #[.int .u8 128] 5)).grown hgr2 (by simp; omega) hblk
  clear hgr2 HO2 HR2 hown1 hB1 hblk
  obtain ⟨z, hz⟩ : ∃ z, Keep (z = zerosF pn) := ⟨_, ⟨rfl⟩⟩
  have hz1 : z < 64 := by rw [hz.out]; unfold zerosF; omega
  have HZ : Keep ((pn + 1 + z) % 64 = 56 ∧ ∀ k, k < z → (pn + 1 + k) % 64 ≠ 56) := ⟨by rw [hz.out]; unfold zerosF; exact ⟨by omega, fun k hk => by omega⟩⟩
  have hl2 : l.length = pn := hn.out.symm
  go_wp2
  go_loopw [3] (fun b wr => ∃ k : Nat, k ≤ z ∧ wr.ownsRow w.heap.size 5 1 b (pn + 1 + k) (bv l ++ (.int .u8 128 :: List.replicate k (.int .u8 0))) ∧ Below w.heap.size w wr) (fun b _ => match b with | .slice _ q _ => pn + 1 + z - q | _ => 0)
  case atStart => exact ⟨0, by omega, hown2, hB2⟩
  case round =>
    clear hown2 hB2
    obtain ⟨k, hk, hown, hB⟩ := hrel
    obtain ⟨g, cap, rfl, hg, hcap⟩ := owns_form hown (by omega)
    have hs := hB.size
    by_cases hlt : k < z
    · have hne := HZ.out.2 k hlt
      have hb : ((((pn + 1 + k : Nat) : Int) % 64) != 56) = true := by rw [bne_iff_ne]; omega
      have HRo := row_one wr 0
      have HO : Keep ((wr.alloc (.cells #[.int .u8 0] 5)).ownsRow w.heap.size 5 1 (.slice (some ⟨g, 0, none⟩) (pn + 1 + k) cap) (pn + 1 + k) (bv l ++ (.int .u8 128 :: List.replicate k (.int .u8 0)))) := ⟨hown.alloc _⟩
      go_wp2_with (first | (at_builtin; refine wpList_appR rfl (.tmp 15) (.tmp 16) rfl w.heap.size (.slice (some ⟨g, 0, none⟩) (pn + 1 + k) cap) (.slice (some ⟨wr.heap.size, 0, none⟩) 1 1) (pn + 1 + k) _ [0] rfl rfl HO.out HRo (by simp; omega) (by simp; omega) ?_; intro v2 w2 hown2 hgr2; refine Hid.out ?_))
      refine hid_in ?_
      have hB2 : Below w.heap.size w w2 := (hB.alloc hs (.cells #[.int .u8 0] 5)).grown hgr2 (by simp; omega) (fun j e => by simp [Value.ownBlock] at e; omega)
      have hLs : (bv l ++ (Value.int .u8 128 :: List.replicate k (.int .u8 0))) ++ bv [0] = bv l ++ (.int .u8 128 :: List.replicate (k + 1) (.int .u8 0)) := by
        rw [List.replicate_succ']; simp [bv]
      rw [hLs] at hown2
      obtain ⟨g2, cap2, rfl, hg2, hcap2⟩ := owns_form hown2 (by simp)
      clear HO HRo hgr2
      go_wp2
      refine ⟨⟨k + 1, by omega, hown2, hB2⟩, by dsimp only [List.length_cons, List.length_nil]; omega⟩
    · obtain rfl : k = z := by omega
      have hb : ((((pn + 1 + k : Nat) : Int) % 64) != 56) = false := by rw [bne_eq_false_iff_eq]; have := HZ.out.1; omega
      have hpe : endL pn 0 = (.int .u8 128 :: List.replicate k (.int .u8 0)) := by simp [endL, hz.out]
      rw [← hpe] at hown
      clear hpe
      have w1' : IntKind.u64.wrap (pn : Int) = pn := by rw [IntKind.wrap_u64]; omega
      have w2' : IntKind.u64.wrap (8 * (pn : Int)) = 8 * pn := by rw [IntKind.wrap_u64]; omega
      go_wp2
      have hb3 : ((((pn : Int) + 1 + (k : Int)) % 64) != 56) = false := by rw [bne_eq_false_iff_eq]; have := HZ.out.1; omega
      rw [hb3]
      go_loopw [3, 5] (fun b i wr => ∃ j : Nat, j ≤ 8 ∧ i = .int .i64 (7 - (j : Int)) ∧ wr.ownsRow w.heap.size 5 1 b (pn + 1 + k + j) (bv l ++ endL pn j) ∧ Below w.heap.size w wr) (fun _ i _ => (intOf i + 1).toNat)
      case atStart => exact ⟨0, by omega, by simp, hown, hB⟩
      case round =>
        clear hown hB
        obtain ⟨j, hj, rfl, hown, hB⟩ := hrel
        obtain ⟨g, cap, rfl, hg, hcap⟩ := owns_form hown (by omega)
        have hs := hB.size
        by_cases hlt : j < 8
        · have hs0 : 0 ≤ 8 * (7 - (j : Int)) := by omega
          have hs1 : 8 * (7 - (j : Int)) ≤ 64 := by omega
          have hs2 : (8 * (7 - (j : Int))).toNat = 56 - 8 * j := by omega
          have HRo := row_one wr (8 * (pn : Int) / 2 ^ (56 - 8 * j) % 256)
          have HO : Keep ((wr.alloc (.cells #[.int .u8 (8 * (pn : Int) / 2 ^ (56 - 8 * j) % 256)] 5)).ownsRow w.heap.size 5 1 (.slice (some ⟨g, 0, none⟩) (pn + 1 + k + j) cap) (pn + 1 + k + j) (bv l ++ endL pn j)) := ⟨hown.alloc _⟩
          go_wp2_with (first | (at_builtin; refine wpList_appR rfl (.tmp 26) (.tmp 32) rfl w.heap.size (.slice (some ⟨g, 0, none⟩) (pn + 1 + k + j) cap) (.slice (some ⟨wr.heap.size, 0, none⟩) 1 1) (pn + 1 + k + j) _ [8 * (pn : Int) / 2 ^ (56 - 8 * j) % 256] rfl rfl HO.out HRo (by simp; omega) (by simp; omega) ?_; intro v2 w2 hown2 hgr2; refine Hid.out ?_))
          refine hid_in ?_
          have hB2 : Below w.heap.size w w2 := (hB.alloc hs _).grown hgr2 (by simp; omega) (fun j e => by simp [Value.ownBlock] at e; omega)
          have hLs : (bv l ++ endL pn j) ++ bv [8 * (pn : Int) / 2 ^ (56 - 8 * j) % 256] = bv l ++ endL pn (j + 1) := by
            simp only [endL, List.range_succ, List.map_append, List.map_cons, List.map_nil, List.append_assoc, bv]
          rw [hLs] at hown2
          clear HO HRo hgr2
          go_wp2
          go_roundw
          case rel => exact ⟨j + 1, by omega, by congr 1; omega, hown2, hB2⟩
          case measure => simp [intOf]; omega
        · obtain rfl : j = 8 := by omega
          go_wp2
          go_ret
          exact ⟨_, rfl, by rw [← hz.out, show pn + k + 9 = pn + 1 + k + 8 by omega]; exact hown, hB⟩
end Go.Proofs.YtpakaladpdoejaaDoor
