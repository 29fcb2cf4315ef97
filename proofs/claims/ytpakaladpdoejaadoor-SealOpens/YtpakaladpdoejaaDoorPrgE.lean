import Derived.Test.YtpakaladpdoejaaDoorPrgD
namespace Go.Proofs.YtpakaladpdoejaaDoor
open Go.RowKit

theorem headE_some {b : List Int} {i : Nat} {e : Int × Int} (hi : i < 6) (h : ∀ j, j < i → stepE b j = none) (he : stepE b i = some e) : headE b = some e := by
  have h6 : List.range 6 = [0, 1, 2, 3, 4, 5] := by decide
  unfold headE
  rw [h6]
  rcases (by omega : i = 0 ∨ i = 1 ∨ i = 2 ∨ i = 3 ∨ i = 4 ∨ i = 5) with rfl | rfl | rfl | rfl | rfl | rfl
  · simp [List.findSome?, he]
  · simp [List.findSome?, he, h 0 (by omega)]
  · simp [List.findSome?, he, h 0 (by omega), h 1 (by omega)]
  · simp [List.findSome?, he, h 0 (by omega), h 1 (by omega), h 2 (by omega)]
  · simp [List.findSome?, he, h 0 (by omega), h 1 (by omega), h 2 (by omega), h 3 (by omega)]
  · simp [List.findSome?, he, h 0 (by omega), h 1 (by omega), h 2 (by omega), h 3 (by omega), h 4 (by omega)]
/-- What is wrong with the form. -/
def formE (b : List Int) : Option (Int × Int) := match headE b with | some e => some e | none => sizeE b
theorem formE_some {b : List Int} {e : Int × Int} (h : headE b = some e) : formE b = some e := by unfold formE; rw [h]
theorem formE_none {b : List Int} (h : headE b = none) : formE b = sizeE b := by unfold formE; rw [h]
theorem next_none {b : List Int} {t : Nat} (h : ∀ j, j < t → stepE b j = none) (he : stepE b t = none) : ∀ j, j < t + 1 → stepE b j = none := fun j hj => by
  by_cases e : j = t
  · subst e; exact he
  · exact h j (by omega)
theorem badPost_drew {r : Option (Int × Int)} {w : World} {q : Nat} {e : Ending} {w' : World} (h : BadPost r (w.drewN q) e w') : BadPost r w e w' := by
  obtain ⟨pv, h1, h2, h3⟩ := h
  exact ⟨pv, h1, (below_drewK (Below.refl _ _) q).trans h2, h3⟩
set_option maxRecDepth 8000 in
set_option maxHeartbeats 2000000 in
theorem wrong_any (vb : Value) (b : List Int) (w : World) (hb : RowAt w vb b) (hbl : b.length ≤ 140737500000000) (hby : Byts b) : Calls Tryd.prog 16 #[vb] w (BadPost (formE b) w) := by
  have HZ := Keep.mk (fun q => wsize_any vb b (w.drewN q) (hb.drewN q) hbl hby)
  have HB := Keep.mk hb
  have hsm : (b.length : Int) ≤ 140737500000000 := by omega
  obtain ⟨r, hr⟩ : ∃ r, Keep (r = formE b) := ⟨_, ⟨rfl⟩⟩
  rw [← hr.out]
  obtain ⟨ba, bc, rfl⟩ := row_form hb
  clear hb hbl
  obtain ⟨n, hn⟩ : ∃ n, Keep (n = b.length) := ⟨_, ⟨rfl⟩⟩
  rw [← hn.out] at HZ HB hsm ⊢
  go_enter Tryd.func16, Tryd.ntmps16
  go_wp2
  go_loopw [5] (fun i wr => ∃ t q : Nat, t ≤ 4 ∧ i = .int .i64 t ∧ Keep (∀ j, j < t → stepE b j = none) ∧ wr = w.drewN q) (fun i _ => 4 - (intOf i).toNat)
  case atStart => exact ⟨0, 0, by omega, rfl, ⟨fun j h => by omega⟩, rfl⟩
  case round =>
    obtain ⟨t, q, ht, rfl, hall, rfl⟩ := hrel
    by_cases hlt : t < 4
    · have hlt' : (t : Int) < 4 := by omega
      by_cases hs : n ≤ t
      · have hs' : (n : Int) ≤ (t : Int) := by omega
        have HR : Keep (r = some (20, (t : Int))) := ⟨by rw [hr.out]; exact formE_some (headE_some (by omega) hall.out (by unfold stepE; rw [if_pos (by rw [← hn.out]; exact hs)]))⟩
        clear hr HZ
        go_wp2
        go_ret
        exact badPost_drew (badPost_new HR.out (Below.refl _ _))
      · have hs' : ¬ (n : Int) ≤ (t : Int) := by omega
        have hs'' : (t : Int) < (n : Int) := by omega
        obtain ⟨g, off, cap, e, hc⟩ := row_cells HB.out (by have := hn.out; omega)
        injection e with e1 e2 e3
        subst e1 e3
        have ct := hc t (by have := hn.out; omega)
        have HS : Keep (stepE b t = if b.getD t 0 ≠ markL.getD t 0 then some (5, (t : Int)) else none) := ⟨by
          unfold stepE
          rw [if_neg (by rw [← hn.out]; exact hs)]
          by_cases h : b.getD t 0 ≠ markL.getD t 0
          · rw [if_pos ⟨hlt, h⟩, if_pos h]
          · rw [if_neg (fun h' => h h'.2), if_neg (fun h' => by omega), if_neg h]⟩
        have hx := hby.getD t
        generalize b.getD t 0 = x at *
        clear hc e2
        by_cases hm : x = markL.getD t 0
        · have HN : Keep (stepE b t = none) := ⟨by rw [HS.out, if_neg (by simpa using hm)]⟩
          have HA : Keep (∀ j, j < t + 1 → stepE b j = none) := ⟨next_none hall.out HN.out⟩
          clear HS HN hall HZ hr
          rcases (by omega : t = 0 ∨ t = 1 ∨ t = 2 ∨ t = 3) with rfl | rfl | rfl | rfl
          · replace hs' : ¬ (n : Int) ≤ 0 := by omega
            replace hs'' : (0 : Int) < (n : Int) := by omega
            clear hlt hlt' ht hs
            rw [Nat.add_zero] at ct
            obtain rfl : x = 80 := hm
            go_wp2
            go_quiet (fail)
            go_wp2
            go_roundw
            case rel => exact ⟨1, q + nq, by omega, rfl, HA, rfl⟩
            case measure => simp only [intOf]; omega
          · replace hs' : ¬ (n : Int) ≤ 1 := by omega
            replace hs'' : (1 : Int) < (n : Int) := by omega
            clear hlt hlt' ht hs
            obtain rfl : x = 76 := hm
            go_wp2
            go_quiet (fail)
            go_wp2
            go_roundw
            case rel => exact ⟨2, q + nq, by omega, rfl, HA, rfl⟩
            case measure => simp only [intOf]; omega
          · replace hs' : ¬ (n : Int) ≤ 2 := by omega
            replace hs'' : (2 : Int) < (n : Int) := by omega
            clear hlt hlt' ht hs
            obtain rfl : x = 69 := hm
            go_wp2
            go_quiet (fail)
            go_wp2
            go_roundw
            case rel => exact ⟨3, q + nq, by omega, rfl, HA, rfl⟩
            case measure => simp only [intOf]; omega
          · replace hs' : ¬ (n : Int) ≤ 3 := by omega
            replace hs'' : (3 : Int) < (n : Int) := by omega
            clear hlt hlt' ht hs
            obtain rfl : x = 49 := hm
            go_wp2
            go_quiet (fail)
            go_wp2
            go_roundw
            case rel => exact ⟨4, q + nq, by omega, rfl, HA, rfl⟩
            case measure => simp only [intOf]; omega
        · have HR : Keep (r = some (5, (t : Int))) := ⟨by rw [hr.out]; exact formE_some (headE_some (by omega) hall.out (by rw [HS.out, if_pos hm]))⟩
          clear HS hall HZ hr
          rcases (by omega : t = 0 ∨ t = 1 ∨ t = 2 ∨ t = 3) with rfl | rfl | rfl | rfl
          · replace hs' : ¬ (n : Int) ≤ 0 := by omega
            replace hs'' : (0 : Int) < (n : Int) := by omega
            clear hlt hlt' ht hs
            rw [Nat.add_zero] at ct
            have hm' : (x != ((({ data := #[80, 76, 69, 49] } : ByteArray)[0]).toNat : Int)) = true := by
              have h : x ≠ 80 := hm
              simp only [bne_iff_ne]; exact h
            clear hm
            go_wp2
            go_quiet (fail)
            go_wp2
            go_ret
            exact badPost_drew (q := q + nq) (badPost_new HR.out (Below.refl _ _))
          · replace hs' : ¬ (n : Int) ≤ 1 := by omega
            replace hs'' : (1 : Int) < (n : Int) := by omega
            clear hlt hlt' ht hs
            have hm' : (x != ((({ data := #[80, 76, 69, 49] } : ByteArray)[1]).toNat : Int)) = true := by
              have h : x ≠ 76 := hm
              simp only [bne_iff_ne]; exact h
            clear hm
            go_wp2
            go_quiet (fail)
            go_wp2
            go_ret
            exact badPost_drew (q := q + nq) (badPost_new HR.out (Below.refl _ _))
          · replace hs' : ¬ (n : Int) ≤ 2 := by omega
            replace hs'' : (2 : Int) < (n : Int) := by omega
            clear hlt hlt' ht hs
            have hm' : (x != ((({ data := #[80, 76, 69, 49] } : ByteArray)[2]).toNat : Int)) = true := by
              have h : x ≠ 69 := hm
              simp only [bne_iff_ne]; exact h
            clear hm
            go_wp2
            go_quiet (fail)
            go_wp2
            go_ret
            exact badPost_drew (q := q + nq) (badPost_new HR.out (Below.refl _ _))
          · replace hs' : ¬ (n : Int) ≤ 3 := by omega
            replace hs'' : (3 : Int) < (n : Int) := by omega
            clear hlt hlt' ht hs
            have hm' : (x != ((({ data := #[80, 76, 69, 49] } : ByteArray)[3]).toNat : Int)) = true := by
              have h : x ≠ 49 := hm
              simp only [bne_iff_ne]; exact h
            clear hm
            go_wp2
            go_quiet (fail)
            go_wp2
            go_ret
            exact badPost_drew (q := q + nq) (badPost_new HR.out (Below.refl _ _))
    · obtain rfl : t = 4 := by omega
      clear hlt ht
      rw [show ((4 : Nat) : Int) = 4 from rfl]
      go_wp2
      go_loop [4] (fun i => ∃ t : Nat, 4 ≤ t ∧ t ≤ 6 ∧ i = .int .i64 t ∧ Keep (∀ j, j < t → stepE b j = none)) (fun i => 6 - (intOf i).toNat)
      case atStart => exact ⟨4, by omega, by omega, rfl, hall⟩
      case round =>
        clear hall
        obtain ⟨t, ht4, ht, rfl, hall⟩ := hrel
        by_cases hlt : t < 6
        · have hlt' : (t : Int) ≤ 5 := by omega
          by_cases hs : n ≤ t
          · have hs' : (n : Int) ≤ (t : Int) := by omega
            have HR : Keep (r = some (20, (t : Int))) := ⟨by rw [hr.out]; exact formE_some (headE_some (by omega) hall.out (by unfold stepE; rw [if_pos (by rw [← hn.out]; exact hs)]))⟩
            clear hr HZ
            go_wp2
            go_ret
            exact badPost_drew (badPost_new HR.out (Below.refl _ _))
          · have hs' : ¬ (n : Int) ≤ (t : Int) := by omega
            have hs'' : (t : Int) < (n : Int) := by omega
            obtain ⟨g, off, cap, e, hc⟩ := row_cells HB.out (by have := hn.out; omega)
            injection e with e1 e2 e3
            subst e1 e3
            have ct := hc t (by have := hn.out; omega)
            have HS : Keep (stepE b t = if ¬ okN (b.getD t 0) then some (1, (t : Int)) else none) := ⟨by
              unfold stepE
              rw [if_neg (by rw [← hn.out]; exact hs)]
              by_cases h : ¬ okN (b.getD t 0)
              · rw [if_neg (fun h' => by omega), if_pos ⟨ht4, h⟩, if_pos h]
              · rw [if_neg (fun h' => by omega), if_neg (fun h' => h h'.2), if_neg h]⟩
            have hx := hby.getD t
            generalize b.getD t 0 = x at *
            clear hc e2
            by_cases hm : okN x
            · have HN : Keep (stepE b t = none) := ⟨by rw [HS.out, if_neg (fun h => h hm)]⟩
              have HA : Keep (∀ j, j < t + 1 → stepE b j = none) := ⟨next_none hall.out HN.out⟩
              have HT : Keep (true = decide (okN x)) := ⟨(decide_eq_true hm).symm⟩
              clear HS HN hall HZ hr hm
              go_wp2_with fail
              refine (isRep_any x _ HT.out _).mono ?_
              rintro e w2 ⟨rfl, hw2⟩
              rw [hw2]
              clear hw2
              go_wp2
              go_round
              case rel => exact ⟨t + 1, by omega, by omega, by go_num, HA⟩
              case measure => simp only [intOf]; omega
            · have HR : Keep (r = some (1, (t : Int))) := ⟨by rw [hr.out]; exact formE_some (headE_some (by omega) hall.out (by rw [HS.out, if_pos hm]))⟩
              have HT : Keep (false = decide (okN x)) := ⟨(decide_eq_false hm).symm⟩
              clear HS hall HZ hr hm
              go_wp2_with fail
              refine (isRep_any x _ HT.out _).mono ?_
              rintro e w2 ⟨rfl, hw2⟩
              rw [hw2]
              clear hw2
              go_wp2
              go_ret
              exact badPost_drew (badPost_new HR.out (Below.refl _ _))
        · obtain rfl : t = 6 := by omega
          have HR : Keep (r = sizeE b) := ⟨by rw [hr.out]; exact formE_none (headE_none.2 fun i hi => hall.out i hi)⟩
          clear hlt ht ht4 hall hr
          go_wp2_with fail
          refine (HZ.out q).mono ?_
          rintro e w2 hp
          obtain ⟨pv, rfl, hb2, hv⟩ := badPost_drew hp
          have HP : Keep (Below w.heap.size w w2 ∧ BadV r w.heap.size pv w2) := ⟨hb2, by rw [HR.out]; exact hv⟩
          clear hb2 hv hp HZ HR
          go_wp2
          go_ret
          exact ⟨_, rfl, HP.out⟩
end Go.Proofs.YtpakaladpdoejaaDoor
