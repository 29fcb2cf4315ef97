import Derived.Test.YtbkboebinhafhaaIn
namespace Go.Proofs.Ytbkboebinhafhaa
open Go.RowKit

theorem lst_get (s : ByteArray) (t : Nat) (h : t < s.size) : (lst s).drop t = (s[t].toNat : Int) :: (lst s).drop (t + 1) := by
  have h' : t < (lst s).length := by rw [lst_len]; exact h
  rw [List.drop_eq_getElem_cons h']
  congr 1
  simp [lst]
  rfl

set_option maxRecDepth 8000 in
set_option maxHeartbeats 4000000 in
theorem first_any (s : ByteArray) (w : World) (hb : s.size ≤ 140737488355328) :
    Calls Try.prog 59 #[.string s] w fun e w' => e = .returned (.tuple #[.int .u64 (fstG (lst s) 0 0).1, .int .i64 (fstG (lst s) 0 0).2.1, .int .i64 (fstG (lst s) 0 0).2.2]) ∧ w' = w := by
  have hsm : (s.size : Int) ≤ 140737488355328 := by omega
  have HB := Keep.mk (lst_byts s)
  clear hb
  go_enter Try.func59, Try.ntmps59
  go_wp2
  go_loop [5, 6] (fun x i => ∃ (t : Nat) (y : Int), t ≤ 9 ∧ t ≤ s.size ∧ x = .int .u64 y ∧ i = .int .i64 t ∧ Keep (fstG ((lst s).drop t) t y = fstG (lst s) 0 0) ∧ Keep (0 ≤ y ∧ y < 2 ^ (7 * t))) (fun _ i => 10 - (intOf i).toNat)
  case atStart => exact ⟨0, 0, by omega, by omega, rfl, rfl, ⟨by simp⟩, ⟨by simp⟩⟩
  case round =>
    obtain ⟨t, y, ht, hts, rfl, rfl, hF, hy⟩ := hrel
    by_cases hlt : t < s.size
    · have hlt' : (t : Int) < (s.size : Int) := by omega
      obtain ⟨c, hc⟩ : ∃ c : Int, Keep ((s[t].toNat : Int) = c) := ⟨_, ⟨rfl⟩⟩
      have hc1 := hc.out
      have hcb := s[t].toNat_lt
      have hc0 : 0 ≤ c := by omega
      have hc2 : c < 256 := by omega
      have hg := lst_get s t hlt
      rw [hc1] at hg
      have HG := Keep.mk hg
      clear hg hcb
      rcases (by omega : t = 0 ∨ t = 1 ∨ t = 2 ∨ t = 3 ∨ t = 4 ∨ t = 5 ∨ t = 6 ∨ t = 7 ∨ t = 8 ∨ t = 9) with rfl | rfl | rfl | rfl | rfl | rfl | rfl | rfl | rfl | rfl
      · have e7 : (2 : Int) ^ (7 * 0) = 1 := by decide
        by_cases h0 : c = 0
        · have hr : fstG (lst s) 0 0 = (y + c % 128 * 2 ^ (7 * 0), ((0 : Nat) : Int) + 1, 0) := by rw [← hF.out, HG.out, fstG, if_neg (by omega), if_neg (by omega), if_pos (by omega)]
          have hz := Keep.mk e7
          clear HG hc e7
          subst h0
          have HR := Keep.mk hr
          clear hr
          go_wp2
          go_ret3
          refine ⟨?_, rfl⟩
          rw [HR.out]
          refine congrArg (fun z => Ending.returned (Value.tuple #[Value.int .u64 z, Value.int .i64 1, Value.int .i64 0])) ?_
          have hyb := hy.out
          rw [hz.out] at hyb ⊢
          first | omega | (rw [IntKind.wrap_u64]; omega)
        have hc3 : (c == 0) = false := by simpa using h0
        by_cases h1 : c < 128
        · have hr : fstG (lst s) 0 0 = (y + c % 128 * 2 ^ (7 * 0), ((0 : Nat) : Int) + 1, 0) := by rw [← hF.out, HG.out, fstG, if_neg (by omega), if_neg (by omega), if_pos (by omega)]
          have hz := Keep.mk e7
          clear e7
          have HR := Keep.mk hr
          clear hr
          go_wp2
          go_ret3
          refine ⟨?_, rfl⟩
          rw [HR.out]
          refine congrArg (fun z => Ending.returned (Value.tuple #[Value.int .u64 z, Value.int .i64 1, Value.int .i64 0])) ?_
          have hyb := hy.out
          rw [hz.out] at hyb ⊢
          first | omega | (rw [IntKind.wrap_u64]; omega)
        have hr : fstG ((lst s).drop 1) (0+1) (y + c % 128 * 2 ^ (7 * 0)) = fstG (lst s) 0 0 := by rw [← hF.out, HG.out, fstG, if_neg (by omega), if_neg (by omega), if_neg h1]
        have HR := Keep.mk hr
        have hz := Keep.mk e7
        have hz2 : Keep ((2 : Int) ^ (7 * 1) = 128) := ⟨by decide⟩
        clear hr e7
        go_wp2
        refine ⟨⟨1, y + c % 128 * 2 ^ (7 * 0), by omega, by omega, ?_, rfl, ⟨HR.out⟩, ⟨?_⟩⟩, by simp [intOf]⟩
        · have hyb := hy.out
          rw [hz.out] at hyb ⊢
          refine congrArg (Value.int .u64) ?_
          first | omega | (rw [IntKind.wrap_u64]; omega)
        · have hyb := hy.out
          rw [hz.out] at hyb ⊢
          rw [hz2.out]
          omega
      · have e7 : (2 : Int) ^ (7 * 1) = 128 := by decide
        by_cases h0 : c = 0
        · have hr : fstG (lst s) 0 0 = (0, 0, 21) := by rw [← hF.out, HG.out, fstG, if_neg (by omega), if_pos ⟨h0, by omega⟩]
          clear HG hc
          subst h0
          clear e7
          have HR := Keep.mk hr
          clear hr
          go_wp2
          go_ret3
          refine ⟨?_, rfl⟩
          rw [HR.out]
          rfl
        by_cases h1 : c < 128
        · have hr : fstG (lst s) 0 0 = (y + c % 128 * 2 ^ (7 * 1), ((1 : Nat) : Int) + 1, 0) := by rw [← hF.out, HG.out, fstG, if_neg (by omega), if_neg (by omega), if_pos h1]
          have hz := Keep.mk e7
          clear e7
          have hc3 : (c == 0) = false := by simpa using h0
          have HR := Keep.mk hr
          clear hr
          go_wp2
          go_ret3
          refine ⟨?_, rfl⟩
          rw [HR.out]
          refine congrArg (fun z => Ending.returned (Value.tuple #[Value.int .u64 z, Value.int .i64 2, Value.int .i64 0])) ?_
          have hyb := hy.out
          rw [hz.out] at hyb ⊢
          first | omega | (rw [IntKind.wrap_u64]; omega)
        have hr : fstG ((lst s).drop 2) (1+1) (y + c % 128 * 2 ^ (7 * 1)) = fstG (lst s) 0 0 := by rw [← hF.out, HG.out, fstG, if_neg (by omega), if_neg (by omega), if_neg h1]
        have HR := Keep.mk hr
        have hz := Keep.mk e7
        have hz2 : Keep ((2 : Int) ^ (7 * 2) = 16384) := ⟨by decide⟩
        clear hr e7
        have hc3 : (c == 0) = false := by simpa using h0
        go_wp2
        refine ⟨⟨2, y + c % 128 * 2 ^ (7 * 1), by omega, by omega, ?_, rfl, ⟨HR.out⟩, ⟨?_⟩⟩, by simp [intOf]⟩
        · have hyb := hy.out
          rw [hz.out] at hyb ⊢
          refine congrArg (Value.int .u64) ?_
          first | omega | (rw [IntKind.wrap_u64]; omega)
        · have hyb := hy.out
          rw [hz.out] at hyb ⊢
          rw [hz2.out]
          omega
      · have e7 : (2 : Int) ^ (7 * 2) = 16384 := by decide
        by_cases h0 : c = 0
        · have hr : fstG (lst s) 0 0 = (0, 0, 21) := by rw [← hF.out, HG.out, fstG, if_neg (by omega), if_pos ⟨h0, by omega⟩]
          clear HG hc
          subst h0
          clear e7
          have HR := Keep.mk hr
          clear hr
          go_wp2
          go_ret3
          refine ⟨?_, rfl⟩
          rw [HR.out]
          rfl
        by_cases h1 : c < 128
        · have hr : fstG (lst s) 0 0 = (y + c % 128 * 2 ^ (7 * 2), ((2 : Nat) : Int) + 1, 0) := by rw [← hF.out, HG.out, fstG, if_neg (by omega), if_neg (by omega), if_pos h1]
          have hz := Keep.mk e7
          clear e7
          have hc3 : (c == 0) = false := by simpa using h0
          have HR := Keep.mk hr
          clear hr
          go_wp2
          go_ret3
          refine ⟨?_, rfl⟩
          rw [HR.out]
          refine congrArg (fun z => Ending.returned (Value.tuple #[Value.int .u64 z, Value.int .i64 3, Value.int .i64 0])) ?_
          have hyb := hy.out
          rw [hz.out] at hyb ⊢
          first | omega | (rw [IntKind.wrap_u64]; omega)
        have hr : fstG ((lst s).drop 3) (2+1) (y + c % 128 * 2 ^ (7 * 2)) = fstG (lst s) 0 0 := by rw [← hF.out, HG.out, fstG, if_neg (by omega), if_neg (by omega), if_neg h1]
        have HR := Keep.mk hr
        have hz := Keep.mk e7
        have hz2 : Keep ((2 : Int) ^ (7 * 3) = 2097152) := ⟨by decide⟩
        clear hr e7
        have hc3 : (c == 0) = false := by simpa using h0
        go_wp2
        refine ⟨⟨3, y + c % 128 * 2 ^ (7 * 2), by omega, by omega, ?_, rfl, ⟨HR.out⟩, ⟨?_⟩⟩, by simp [intOf]⟩
        · have hyb := hy.out
          rw [hz.out] at hyb ⊢
          refine congrArg (Value.int .u64) ?_
          first | omega | (rw [IntKind.wrap_u64]; omega)
        · have hyb := hy.out
          rw [hz.out] at hyb ⊢
          rw [hz2.out]
          omega
      · have e7 : (2 : Int) ^ (7 * 3) = 2097152 := by decide
        by_cases h0 : c = 0
        · have hr : fstG (lst s) 0 0 = (0, 0, 21) := by rw [← hF.out, HG.out, fstG, if_neg (by omega), if_pos ⟨h0, by omega⟩]
          clear HG hc
          subst h0
          clear e7
          have HR := Keep.mk hr
          clear hr
          go_wp2
          go_ret3
          refine ⟨?_, rfl⟩
          rw [HR.out]
          rfl
        by_cases h1 : c < 128
        · have hr : fstG (lst s) 0 0 = (y + c % 128 * 2 ^ (7 * 3), ((3 : Nat) : Int) + 1, 0) := by rw [← hF.out, HG.out, fstG, if_neg (by omega), if_neg (by omega), if_pos h1]
          have hz := Keep.mk e7
          clear e7
          have hc3 : (c == 0) = false := by simpa using h0
          have HR := Keep.mk hr
          clear hr
          go_wp2
          go_ret3
          refine ⟨?_, rfl⟩
          rw [HR.out]
          refine congrArg (fun z => Ending.returned (Value.tuple #[Value.int .u64 z, Value.int .i64 4, Value.int .i64 0])) ?_
          have hyb := hy.out
          rw [hz.out] at hyb ⊢
          first | omega | (rw [IntKind.wrap_u64]; omega)
        have hr : fstG ((lst s).drop 4) (3+1) (y + c % 128 * 2 ^ (7 * 3)) = fstG (lst s) 0 0 := by rw [← hF.out, HG.out, fstG, if_neg (by omega), if_neg (by omega), if_neg h1]
        have HR := Keep.mk hr
        have hz := Keep.mk e7
        have hz2 : Keep ((2 : Int) ^ (7 * 4) = 268435456) := ⟨by decide⟩
        clear hr e7
        have hc3 : (c == 0) = false := by simpa using h0
        go_wp2
        refine ⟨⟨4, y + c % 128 * 2 ^ (7 * 3), by omega, by omega, ?_, rfl, ⟨HR.out⟩, ⟨?_⟩⟩, by simp [intOf]⟩
        · have hyb := hy.out
          rw [hz.out] at hyb ⊢
          refine congrArg (Value.int .u64) ?_
          first | omega | (rw [IntKind.wrap_u64]; omega)
        · have hyb := hy.out
          rw [hz.out] at hyb ⊢
          rw [hz2.out]
          omega
      · have e7 : (2 : Int) ^ (7 * 4) = 268435456 := by decide
        by_cases h0 : c = 0
        · have hr : fstG (lst s) 0 0 = (0, 0, 21) := by rw [← hF.out, HG.out, fstG, if_neg (by omega), if_pos ⟨h0, by omega⟩]
          clear HG hc
          subst h0
          clear e7
          have HR := Keep.mk hr
          clear hr
          go_wp2
          go_ret3
          refine ⟨?_, rfl⟩
          rw [HR.out]
          rfl
        by_cases h1 : c < 128
        · have hr : fstG (lst s) 0 0 = (y + c % 128 * 2 ^ (7 * 4), ((4 : Nat) : Int) + 1, 0) := by rw [← hF.out, HG.out, fstG, if_neg (by omega), if_neg (by omega), if_pos h1]
          have hz := Keep.mk e7
          clear e7
          have hc3 : (c == 0) = false := by simpa using h0
          have HR := Keep.mk hr
          clear hr
          go_wp2
          go_ret3
          refine ⟨?_, rfl⟩
          rw [HR.out]
          refine congrArg (fun z => Ending.returned (Value.tuple #[Value.int .u64 z, Value.int .i64 5, Value.int .i64 0])) ?_
          have hyb := hy.out
          rw [hz.out] at hyb ⊢
          first | omega | (rw [IntKind.wrap_u64]; omega)
        have hr : fstG ((lst s).drop 5) (4+1) (y + c % 128 * 2 ^ (7 * 4)) = fstG (lst s) 0 0 := by rw [← hF.out, HG.out, fstG, if_neg (by omega), if_neg (by omega), if_neg h1]
        have HR := Keep.mk hr
        have hz := Keep.mk e7
        have hz2 : Keep ((2 : Int) ^ (7 * 5) = 34359738368) := ⟨by decide⟩
        clear hr e7
        have hc3 : (c == 0) = false := by simpa using h0
        go_wp2
        refine ⟨⟨5, y + c % 128 * 2 ^ (7 * 4), by omega, by omega, ?_, rfl, ⟨HR.out⟩, ⟨?_⟩⟩, by simp [intOf]⟩
        · have hyb := hy.out
          rw [hz.out] at hyb ⊢
          refine congrArg (Value.int .u64) ?_
          first | omega | (rw [IntKind.wrap_u64]; omega)
        · have hyb := hy.out
          rw [hz.out] at hyb ⊢
          rw [hz2.out]
          omega
      · have e7 : (2 : Int) ^ (7 * 5) = 34359738368 := by decide
        by_cases h0 : c = 0
        · have hr : fstG (lst s) 0 0 = (0, 0, 21) := by rw [← hF.out, HG.out, fstG, if_neg (by omega), if_pos ⟨h0, by omega⟩]
          clear HG hc
          subst h0
          clear e7
          have HR := Keep.mk hr
          clear hr
          go_wp2
          go_ret3
          refine ⟨?_, rfl⟩
          rw [HR.out]
          rfl
        by_cases h1 : c < 128
        · have hr : fstG (lst s) 0 0 = (y + c % 128 * 2 ^ (7 * 5), ((5 : Nat) : Int) + 1, 0) := by rw [← hF.out, HG.out, fstG, if_neg (by omega), if_neg (by omega), if_pos h1]
          have hz := Keep.mk e7
          clear e7
          have hc3 : (c == 0) = false := by simpa using h0
          have HR := Keep.mk hr
          clear hr
          go_wp2
          go_ret3
          refine ⟨?_, rfl⟩
          rw [HR.out]
          refine congrArg (fun z => Ending.returned (Value.tuple #[Value.int .u64 z, Value.int .i64 6, Value.int .i64 0])) ?_
          have hyb := hy.out
          rw [hz.out] at hyb ⊢
          first | omega | (rw [IntKind.wrap_u64]; omega)
        have hr : fstG ((lst s).drop 6) (5+1) (y + c % 128 * 2 ^ (7 * 5)) = fstG (lst s) 0 0 := by rw [← hF.out, HG.out, fstG, if_neg (by omega), if_neg (by omega), if_neg h1]
        have HR := Keep.mk hr
        have hz := Keep.mk e7
        have hz2 : Keep ((2 : Int) ^ (7 * 6) = 4398046511104) := ⟨by decide⟩
        clear hr e7
        have hc3 : (c == 0) = false := by simpa using h0
        go_wp2
        refine ⟨⟨6, y + c % 128 * 2 ^ (7 * 5), by omega, by omega, ?_, rfl, ⟨HR.out⟩, ⟨?_⟩⟩, by simp [intOf]⟩
        · have hyb := hy.out
          rw [hz.out] at hyb ⊢
          refine congrArg (Value.int .u64) ?_
          first | omega | (rw [IntKind.wrap_u64]; omega)
        · have hyb := hy.out
          rw [hz.out] at hyb ⊢
          rw [hz2.out]
          omega
      · have e7 : (2 : Int) ^ (7 * 6) = 4398046511104 := by decide
        by_cases h0 : c = 0
        · have hr : fstG (lst s) 0 0 = (0, 0, 21) := by rw [← hF.out, HG.out, fstG, if_neg (by omega), if_pos ⟨h0, by omega⟩]
          clear HG hc
          subst h0
          clear e7
          have HR := Keep.mk hr
          clear hr
          go_wp2
          go_ret3
          refine ⟨?_, rfl⟩
          rw [HR.out]
          rfl
        by_cases h1 : c < 128
        · have hr : fstG (lst s) 0 0 = (y + c % 128 * 2 ^ (7 * 6), ((6 : Nat) : Int) + 1, 0) := by rw [← hF.out, HG.out, fstG, if_neg (by omega), if_neg (by omega), if_pos h1]
          have hz := Keep.mk e7
          clear e7
          have hc3 : (c == 0) = false := by simpa using h0
          have HR := Keep.mk hr
          clear hr
          go_wp2
          go_ret3
          refine ⟨?_, rfl⟩
          rw [HR.out]
          refine congrArg (fun z => Ending.returned (Value.tuple #[Value.int .u64 z, Value.int .i64 7, Value.int .i64 0])) ?_
          have hyb := hy.out
          rw [hz.out] at hyb ⊢
          first | omega | (rw [IntKind.wrap_u64]; omega)
        have hr : fstG ((lst s).drop 7) (6+1) (y + c % 128 * 2 ^ (7 * 6)) = fstG (lst s) 0 0 := by rw [← hF.out, HG.out, fstG, if_neg (by omega), if_neg (by omega), if_neg h1]
        have HR := Keep.mk hr
        have hz := Keep.mk e7
        have hz2 : Keep ((2 : Int) ^ (7 * 7) = 562949953421312) := ⟨by decide⟩
        clear hr e7
        have hc3 : (c == 0) = false := by simpa using h0
        go_wp2
        refine ⟨⟨7, y + c % 128 * 2 ^ (7 * 6), by omega, by omega, ?_, rfl, ⟨HR.out⟩, ⟨?_⟩⟩, by simp [intOf]⟩
        · have hyb := hy.out
          rw [hz.out] at hyb ⊢
          refine congrArg (Value.int .u64) ?_
          first | omega | (rw [IntKind.wrap_u64]; omega)
        · have hyb := hy.out
          rw [hz.out] at hyb ⊢
          rw [hz2.out]
          omega
      · have e7 : (2 : Int) ^ (7 * 7) = 562949953421312 := by decide
        by_cases h0 : c = 0
        · have hr : fstG (lst s) 0 0 = (0, 0, 21) := by rw [← hF.out, HG.out, fstG, if_neg (by omega), if_pos ⟨h0, by omega⟩]
          clear HG hc
          subst h0
          clear e7
          have HR := Keep.mk hr
          clear hr
          go_wp2
          go_ret3
          refine ⟨?_, rfl⟩
          rw [HR.out]
          rfl
        by_cases h1 : c < 128
        · have hr : fstG (lst s) 0 0 = (y + c % 128 * 2 ^ (7 * 7), ((7 : Nat) : Int) + 1, 0) := by rw [← hF.out, HG.out, fstG, if_neg (by omega), if_neg (by omega), if_pos h1]
          have hz := Keep.mk e7
          clear e7
          have hc3 : (c == 0) = false := by simpa using h0
          have HR := Keep.mk hr
          clear hr
          go_wp2
          go_ret3
          refine ⟨?_, rfl⟩
          rw [HR.out]
          refine congrArg (fun z => Ending.returned (Value.tuple #[Value.int .u64 z, Value.int .i64 8, Value.int .i64 0])) ?_
          have hyb := hy.out
          rw [hz.out] at hyb ⊢
          first | omega | (rw [IntKind.wrap_u64]; omega)
        have hr : fstG ((lst s).drop 8) (7+1) (y + c % 128 * 2 ^ (7 * 7)) = fstG (lst s) 0 0 := by rw [← hF.out, HG.out, fstG, if_neg (by omega), if_neg (by omega), if_neg h1]
        have HR := Keep.mk hr
        have hz := Keep.mk e7
        have hz2 : Keep ((2 : Int) ^ (7 * 8) = 72057594037927936) := ⟨by decide⟩
        clear hr e7
        have hc3 : (c == 0) = false := by simpa using h0
        go_wp2
        refine ⟨⟨8, y + c % 128 * 2 ^ (7 * 7), by omega, by omega, ?_, rfl, ⟨HR.out⟩, ⟨?_⟩⟩, by simp [intOf]⟩
        · have hyb := hy.out
          rw [hz.out] at hyb ⊢
          refine congrArg (Value.int .u64) ?_
          first | omega | (rw [IntKind.wrap_u64]; omega)
        · have hyb := hy.out
          rw [hz.out] at hyb ⊢
          rw [hz2.out]
          omega
      · have e7 : (2 : Int) ^ (7 * 8) = 72057594037927936 := by decide
        by_cases h0 : c = 0
        · have hr : fstG (lst s) 0 0 = (0, 0, 21) := by rw [← hF.out, HG.out, fstG, if_neg (by omega), if_pos ⟨h0, by omega⟩]
          clear HG hc
          subst h0
          clear e7
          have HR := Keep.mk hr
          clear hr
          go_wp2
          go_ret3
          refine ⟨?_, rfl⟩
          rw [HR.out]
          rfl
        by_cases h1 : c < 128
        · have hr : fstG (lst s) 0 0 = (y + c % 128 * 2 ^ (7 * 8), ((8 : Nat) : Int) + 1, 0) := by rw [← hF.out, HG.out, fstG, if_neg (by omega), if_neg (by omega), if_pos h1]
          have hz := Keep.mk e7
          clear e7
          have hc3 : (c == 0) = false := by simpa using h0
          have HR := Keep.mk hr
          clear hr
          go_wp2
          go_ret3
          refine ⟨?_, rfl⟩
          rw [HR.out]
          refine congrArg (fun z => Ending.returned (Value.tuple #[Value.int .u64 z, Value.int .i64 9, Value.int .i64 0])) ?_
          have hyb := hy.out
          rw [hz.out] at hyb ⊢
          first | omega | (rw [IntKind.wrap_u64]; omega)
        have hr : fstG ((lst s).drop 9) (8+1) (y + c % 128 * 2 ^ (7 * 8)) = fstG (lst s) 0 0 := by rw [← hF.out, HG.out, fstG, if_neg (by omega), if_neg (by omega), if_neg h1]
        have HR := Keep.mk hr
        have hz := Keep.mk e7
        have hz2 : Keep ((2 : Int) ^ (7 * 9) = 9223372036854775808) := ⟨by decide⟩
        clear hr e7
        have hc3 : (c == 0) = false := by simpa using h0
        go_wp2
        refine ⟨⟨9, y + c % 128 * 2 ^ (7 * 8), by omega, by omega, ?_, rfl, ⟨HR.out⟩, ⟨?_⟩⟩, by simp [intOf]⟩
        · have hyb := hy.out
          rw [hz.out] at hyb ⊢
          refine congrArg (Value.int .u64) ?_
          first | omega | (rw [IntKind.wrap_u64]; omega)
        · have hyb := hy.out
          rw [hz.out] at hyb ⊢
          rw [hz2.out]
          omega
      · have e7 : (2 : Int) ^ (7 * 9) = 9223372036854775808 := by decide
        by_cases h2 : 1 < c
        · have hr : fstG (lst s) 0 0 = (0, 0, 22) := by rw [← hF.out, HG.out, fstG, if_pos ⟨rfl, h2⟩]
          clear e7
          have HR := Keep.mk hr
          clear hr
          go_wp2
          go_ret3
          refine ⟨?_, rfl⟩
          rw [HR.out]
          rfl
        by_cases h0 : c = 0
        · have hr : fstG (lst s) 0 0 = (0, 0, 21) := by rw [← hF.out, HG.out, fstG, if_neg (by omega), if_pos ⟨h0, by omega⟩]
          clear HG hc
          subst h0
          clear e7
          have HR := Keep.mk hr
          clear hr
          go_wp2
          go_ret3
          refine ⟨?_, rfl⟩
          rw [HR.out]
          rfl
        have h1 : c < 128 := by omega
        have hr : fstG (lst s) 0 0 = (y + c % 128 * 2 ^ (7 * 9), ((9 : Nat) : Int) + 1, 0) := by rw [← hF.out, HG.out, fstG, if_neg (by omega), if_neg (by omega), if_pos h1]
        have hz := Keep.mk e7
        clear e7
        have hc3 : (c == 0) = false := by simpa using h0
        have HR := Keep.mk hr
        clear hr
        go_wp2
        go_ret3
        refine ⟨?_, rfl⟩
        rw [HR.out]
        refine congrArg (fun z => Ending.returned (Value.tuple #[Value.int .u64 z, Value.int .i64 10, Value.int .i64 0])) ?_
        have hyb := hy.out
        rw [hz.out] at hyb ⊢
        first | omega | (rw [IntKind.wrap_u64]; omega)
    · have hlt' : ¬ ((t : Int) < (s.size : Int)) := by omega
      have hr : fstG (lst s) 0 0 = (0, 0, 20) := by
        rw [← hF.out, List.drop_of_length_le (by rw [lst_len]; omega), fstG]
      have HR := Keep.mk hr
      clear hr
      go_wp2
      go_ret3
      refine ⟨?_, rfl⟩
      rw [HR.out]
      rfl
end Go.Proofs.Ytbkboebinhafhaa
