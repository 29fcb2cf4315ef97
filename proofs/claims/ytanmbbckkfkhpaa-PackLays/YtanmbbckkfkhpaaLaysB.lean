import Derived.Test.YtanmbbckkfkhpaaLaysA
namespace Go.Proofs.Ytanmbbckkfkhpaa
open Go.RowKit

theorem Try.enter18 (w : World) (vs : Array Value) : (callFunc 18 vs).run Try.prog w = .ok (.enter 18 vs) w := by kernel_rfl
theorem Try.enter12 (w : World) (vs : Array Value) : (callFunc 12 vs).run Try.prog w = .ok (.enter 12 vs) w := by kernel_rfl
/-- Yes or no in a slice. -/
structure BoolsAt (w : World) (v : Value) (m : Nat) (B : Nat → Bool) : Prop where
  form : (∃ a c, v = .slice a 0 c ∧ m = 0) ∨ ∃ q o cap, v = .slice (some ⟨q, o, none⟩) m cap ∧ ∀ i, i < m → w.cell? ⟨q, o + i, none⟩ = some (.bool (B i))
theorem BoolsAt.sl {w : World} {v : Value} {m : Nat} {B : Nat → Bool} (h : BoolsAt w v m B) : ∃ a c, v = .slice a m c := by
  rcases h.form with ⟨a, c, rfl, rfl⟩ | ⟨q, o, cap, rfl, _⟩
  · exact ⟨_, _, rfl⟩
  · exact ⟨_, _, rfl⟩
theorem BoolsAt.at {w : World} {a : Option Addr} {m c : Nat} {B : Nat → Bool} (h : BoolsAt w (.slice a m c) m B) {t : Nat} (ht : t < m) : ∃ q o, a = some ⟨q, o, none⟩ ∧ w.cell? ⟨q, o + t, none⟩ = some (.bool (B t)) := by
  rcases h.form with ⟨_, _, _, h2⟩ | ⟨q, o, cap, h1, h2⟩
  · omega
  · injection h1 with h1 h3 h4
    exact ⟨q, o, h1, h2 t ht⟩

theorem own_empty (w : World) (g : Nat) (h : Blk w g 5 #[]) : Own w (.slice (some ⟨g, 0, none⟩) 0 0) [] := Own.mk (l := []) h (Nat.le_refl _) (Nat.zero_le _) rfl (by simp [bv])
def P0 (n : Nat) : Nat → Nat := fun t => if t = 0 then n else n + 1
def U0 (n : Nat) : Nat → Value := fun t => if t = 0 then .slice (some ⟨n + 1 + 1 + 1, 0, none⟩) 0 0 else .slice (some ⟨n + 1 + 1 + 1 + 1, 0, none⟩) 0 0
def tag0 (n : Nat) : Nat → Nat := fun k => if k < n then 9 else if k = n then 0 else if k = n + 1 then 1 else if k = n + 3 then 2 else if k = n + 4 then 3 else 5
theorem lays_new (w1 : World) : Lays w1 (w1.heap.size + 1 + 1) (w1.heap.size + 1 + 1 + 1 + 1 + 1) (w1.heap.size + 1 + 1 + 1 + 1 + 1 + 1) (P0 w1.heap.size) (fun _ => .slice none 0 0) (U0 w1.heap.size) (fun _ => []) (tag0 w1.heap.size)
    (((((((w1.alloc (.cells #[.slice none 0 0] 77)).alloc (.cells #[.slice none 0 0] 77)).alloc (.cells #[ptr w1.heap.size, ptr (w1.heap.size + 1)] 33)).alloc (.cells #[] 5)).alloc (.cells #[] 5)).alloc (.cells #[.slice (some ⟨w1.heap.size + 1 + 1 + 1, 0, none⟩) 0 0, .slice (some ⟨w1.heap.size + 1 + 1 + 1 + 1, 0, none⟩) 0 0] 36)).alloc (.cells #[.slice none 0 0, .slice none 0 0, .int .i64 0, .bool false] 40)) := by
  have b0 := (((((((Blk.new w1 77 #[.slice none 0 0]).alloc (.cells #[.slice none 0 0] 77)).alloc (.cells #[ptr w1.heap.size, ptr (w1.heap.size + 1)] 33)).alloc (.cells #[] 5)).alloc (.cells #[] 5)).alloc (.cells #[.slice (some ⟨w1.heap.size + 1 + 1 + 1, 0, none⟩) 0 0, .slice (some ⟨w1.heap.size + 1 + 1 + 1 + 1, 0, none⟩) 0 0] 36)).alloc (.cells #[.slice none 0 0, .slice none 0 0, .int .i64 0, .bool false] 40))
  have b1 := ((((((Blk.new (w1.alloc (.cells #[.slice none 0 0] 77)) 77 #[.slice none 0 0]).alloc (.cells #[ptr w1.heap.size, ptr (w1.heap.size + 1)] 33)).alloc (.cells #[] 5)).alloc (.cells #[] 5)).alloc (.cells #[.slice (some ⟨w1.heap.size + 1 + 1 + 1, 0, none⟩) 0 0, .slice (some ⟨w1.heap.size + 1 + 1 + 1 + 1, 0, none⟩) 0 0] 36)).alloc (.cells #[.slice none 0 0, .slice none 0 0, .int .i64 0, .bool false] 40))
  have b2 := (((((Blk.new ((w1.alloc (.cells #[.slice none 0 0] 77)).alloc (.cells #[.slice none 0 0] 77)) 33 #[ptr w1.heap.size, ptr (w1.heap.size + 1)]).alloc (.cells #[] 5)).alloc (.cells #[] 5)).alloc (.cells #[.slice (some ⟨w1.heap.size + 1 + 1 + 1, 0, none⟩) 0 0, .slice (some ⟨w1.heap.size + 1 + 1 + 1 + 1, 0, none⟩) 0 0] 36)).alloc (.cells #[.slice none 0 0, .slice none 0 0, .int .i64 0, .bool false] 40))
  have b3 := ((((Blk.new (((w1.alloc (.cells #[.slice none 0 0] 77)).alloc (.cells #[.slice none 0 0] 77)).alloc (.cells #[ptr w1.heap.size, ptr (w1.heap.size + 1)] 33)) 5 #[]).alloc (.cells #[] 5)).alloc (.cells #[.slice (some ⟨w1.heap.size + 1 + 1 + 1, 0, none⟩) 0 0, .slice (some ⟨w1.heap.size + 1 + 1 + 1 + 1, 0, none⟩) 0 0] 36)).alloc (.cells #[.slice none 0 0, .slice none 0 0, .int .i64 0, .bool false] 40))
  have b4 := (((Blk.new ((((w1.alloc (.cells #[.slice none 0 0] 77)).alloc (.cells #[.slice none 0 0] 77)).alloc (.cells #[ptr w1.heap.size, ptr (w1.heap.size + 1)] 33)).alloc (.cells #[] 5)) 5 #[]).alloc (.cells #[.slice (some ⟨w1.heap.size + 1 + 1 + 1, 0, none⟩) 0 0, .slice (some ⟨w1.heap.size + 1 + 1 + 1 + 1, 0, none⟩) 0 0] 36)).alloc (.cells #[.slice none 0 0, .slice none 0 0, .int .i64 0, .bool false] 40))
  have b5 := ((Blk.new (((((w1.alloc (.cells #[.slice none 0 0] 77)).alloc (.cells #[.slice none 0 0] 77)).alloc (.cells #[ptr w1.heap.size, ptr (w1.heap.size + 1)] 33)).alloc (.cells #[] 5)).alloc (.cells #[] 5)) 36 #[.slice (some ⟨w1.heap.size + 1 + 1 + 1, 0, none⟩) 0 0, .slice (some ⟨w1.heap.size + 1 + 1 + 1 + 1, 0, none⟩) 0 0]).alloc (.cells #[.slice none 0 0, .slice none 0 0, .int .i64 0, .bool false] 40))
  have b6 := Blk.new ((((((w1.alloc (.cells #[.slice none 0 0] 77)).alloc (.cells #[.slice none 0 0] 77)).alloc (.cells #[ptr w1.heap.size, ptr (w1.heap.size + 1)] 33)).alloc (.cells #[] 5)).alloc (.cells #[] 5)).alloc (.cells #[.slice (some ⟨w1.heap.size + 1 + 1 + 1, 0, none⟩) 0 0, .slice (some ⟨w1.heap.size + 1 + 1 + 1 + 1, 0, none⟩) 0 0] 36)) 40 #[.slice none 0 0, .slice none 0 0, .int .i64 0, .bool false]
  have hbl : Below w1.heap.size w1 (((((((w1.alloc (.cells #[.slice none 0 0] 77)).alloc (.cells #[.slice none 0 0] 77)).alloc (.cells #[ptr w1.heap.size, ptr (w1.heap.size + 1)] 33)).alloc (.cells #[] 5)).alloc (.cells #[] 5)).alloc (.cells #[.slice (some ⟨w1.heap.size + 1 + 1 + 1, 0, none⟩) 0 0, .slice (some ⟨w1.heap.size + 1 + 1 + 1 + 1, 0, none⟩) 0 0] 36)).alloc (.cells #[.slice none 0 0, .slice none 0 0, .int .i64 0, .bool false] 40)) :=
    (((((((Below.refl _ _).alloc (Nat.le_refl _) _).alloc (by simp) _).alloc (by simp; omega) _).alloc (by simp; omega) _).alloc (by simp; omega) _).alloc (by simp; omega) _).alloc (by simp; omega) _
  simp only [World.size_alloc] at b1 b2 b3 b4 b5 b6
  generalize (((((((w1.alloc (.cells #[.slice none 0 0] 77)).alloc (.cells #[.slice none 0 0] 77)).alloc (.cells #[ptr w1.heap.size, ptr (w1.heap.size + 1)] 33)).alloc (.cells #[] 5)).alloc (.cells #[] 5)).alloc (.cells #[.slice (some ⟨w1.heap.size + 1 + 1 + 1, 0, none⟩) 0 0, .slice (some ⟨w1.heap.size + 1 + 1 + 1 + 1, 0, none⟩) 0 0] 36)).alloc (.cells #[.slice none 0 0, .slice none 0 0, .int .i64 0, .bool false] 40)) = w7 at *
  have two : ∀ t, t < 2 → t = 0 ∨ t = 1 := fun t ht => by omega
  refine ⟨b2, b5, ⟨_, _, 0, fun _ => .slice none 0 0, fun _ => .slice none 0 0, 0, b6, BkL.nil _ _ _ _, by omega, by omega, by omega⟩, ?_, ?_, ?_, ?_, ?_, ?_, ?_, hbl⟩
  · intro t ht
    rcases two t ht with rfl | rfl
    · exact ⟨b0, own_nil _⟩
    · exact ⟨b1, own_nil _⟩
  · intro t ht
    rcases two t ht with rfl | rfl
    · exact own_empty _ _ b3
    · exact own_empty _ _ b4
  · intro t ht
    rcases two t ht with rfl | rfl
    · exact ⟨_, rfl⟩
    · exact ⟨_, rfl⟩
  · intro t ht k hk
    rcases hk with hk | hk
    · rcases two t ht with rfl | rfl
      · simp [P0] at hk; subst hk; simp [tag0]
      · simp [P0] at hk; subst hk; simp [tag0]
    · simp [Value.ownBlock] at hk
  · intro t ht k hk
    rcases two t ht with rfl | rfl
    · simp [U0, Value.ownBlock] at hk; subst hk; unfold tag0; rw [if_neg (by omega), if_neg (by omega), if_neg (by omega), if_pos (by omega)]
    · simp [U0, Value.ownBlock] at hk; subst hk; unfold tag0; rw [if_neg (by omega), if_neg (by omega), if_neg (by omega), if_neg (by omega), if_pos (by omega)]
  · refine ⟨?_, ?_, ?_⟩ <;> (unfold tag0; rw [if_neg (by omega), if_neg (by omega), if_neg (by omega), if_neg (by omega), if_neg (by omega)])
  · intro k hk
    unfold tag0; rw [if_pos hk]
theorem OutAt.drew {w : World} {p : Nat} {v : Value} {l : List Int} (h : OutAt w p v l) : OutAt w.drew p v l := h.grown ((Grown.refl w fun _ => False).drew) fun _ _ h => h
theorem Own.drew {w : World} {v : Value} {l : List Int} (h : Own w v l) : Own w.drew v l := h.grown ((Grown.refl w fun _ => False).drew) fun _ _ h => h
theorem Own.drewN {w : World} {v : Value} {l : List Int} (h : Own w v l) (n : Nat) : Own (w.drewN n) v l := h.grown ((Grown.refl w fun _ => False).drewN n) fun _ _ h => h
theorem OutAt.drewN {w : World} {p : Nat} {v : Value} {l : List Int} (h : OutAt w p v l) (n : Nat) : OutAt (w.drewN n) p v l := ⟨h.blk.drewN n, h.own⟩
theorem BkL.drewN {w : World} {lv gv : Value} {N : Nat} {A B : Nat → Value} {F : Nat → Prop} (h : BkL w lv gv N A B F) (n : Nat) : BkL (w.drewN n) lv gv N A B F := h.grown ((Grown.refl w fun _ => False).drewN n) fun _ _ h => h
theorem bookStays {kb : Nat} {F : Nat → Prop} {w : World} (h : BookIn kb 40 kx0 F w) : Calls Try.prog 18 #[ptr kb] w fun e w' => e = .returned (.bool true) ∧ w' = w := by
  obtain ⟨lv, gv, N, A, B, n, h1, h2, h3, _⟩ := h
  exact stays_any kb 0 40 kx0 box0 lv gv N A B n F w h1 h2 h3
theorem BookIn.drewN {kb : Nat} {F : Nat → Prop} {w : World} (h : BookIn kb 40 kx0 F w) (n : Nat) : BookIn kb 40 kx0 F (w.drewN n) := h.grown ((Grown.refl w fun _ => False).drewN n) (fun h => h) (fun _ _ h => h) (fun _ h => h)
theorem bookAdd {kb : Nat} {F : Nat → Prop} {w : World} {vb : Value} {lb : List Int} (h : BookIn kb 40 kx0 F w) (hF : ¬ F kb) (hvb : OwnT w vb lb) (hs : ∀ k, vb.ownBlock = some k → ¬ F k) (hb : lb.length + 60 ≤ 140737488355328) : Calls Try.prog 16 #[ptr kb, vb] w (AddPost kb 40 kx0 vb F w) := by
  obtain ⟨lv, gv, N, A, B, n, h1, h2, h3, h4, h5⟩ := h
  exact add_any kb 0 40 kx0 box0 (by decide) (by decide) lv gv N A B n F vb lb w h1 h2 h3 h4 h5 hF hvb hs hb
set_option maxRecDepth 4000 in
set_option maxHeartbeats 4000000 in
theorem lays_any (v tv : Value) (m mt : Nat) (Kd : Nat → Int) (X : Nat → Nat) (N : Nat → Int) (V : Nat → Value) (rows : Nat → List Int) (B : Nat → Bool) (w : World) (hr : ScriptAt w v m Kd X N V rows) (hm : m ≤ 4398046511104) (ht : BoolsAt w tv mt B) (hmt : (mt : Int) ≤ 140737488355328) :
    Calls Try.prog 4 #[v, tv] w fun e w' => e = .returned (.bool true) ∧ Below w.heap.size w w' := by
  have HR := Keep.mk hr
  have HTu := Keep.mk ht
  obtain ⟨pa, pc, rfl⟩ := script_form hr
  obtain ⟨ta, tc, rfl⟩ := ht.sl
  have hmi : (m : Int) ≤ 4398046511104 := by omega
  clear hr ht hm
  go_enter Try.func4, Try.ntmps4
  go_wp2_with fail
  refine (awake_any w).mono ?_
  rintro e w1 ⟨rfl, hb1⟩
  have HB1 := Keep.mk hb1
  have HR1 := Keep.mk (HR.out.below hb1)
  clear hb1
  go_wp2_with fail
  refine (beyond_any _ m Kd X N V rows w1 HR1.out (by omega)).mono ?_
  rintro e w1' ⟨bb, rfl, hbb, hw1⟩
  rw [hw1]
  have HBB := Keep.mk hbb
  clear hbb hw1
  cases bb with
  | true =>
    go_wp2
    go_ret
    exact ⟨rfl, HB1.out⟩
  | false =>
    have HT : Keep (tot rows m ≤ 2147483647) := ⟨HBB.out rfl⟩
    go_wp2_with fail
    refine (newOut_any w1).mono ?_
    rintro e w2 ⟨rfl, hw2⟩
    rw [hw2]
    clear hw2 HBB
    go_wp2_with fail
    refine (newOut_any _).mono ?_
    rintro e w3 ⟨rfl, hw3⟩
    rw [hw3]
    clear hw3
    simp only [World.size_alloc]
    go_wp2
    have hL7 := lays_new w1
    obtain ⟨ob, hob⟩ : ∃ ob, Keep (ob = w1.heap.size + 1 + 1) := ⟨_, ⟨rfl⟩⟩
    obtain ⟨wb, hwb⟩ : ∃ wb, Keep (wb = w1.heap.size + 1 + 1 + 1 + 1 + 1) := ⟨_, ⟨rfl⟩⟩
    obtain ⟨kb, hkb⟩ : ∃ kb, Keep (kb = w1.heap.size + 1 + 1 + 1 + 1 + 1 + 1) := ⟨_, ⟨rfl⟩⟩
    obtain ⟨P, hP⟩ : ∃ P, Keep (P = P0 w1.heap.size) := ⟨_, ⟨rfl⟩⟩
    rw [← hkb.out, ← hwb.out, ← hob.out, ← hP.out] at hL7
    rw [← hkb.out, ← hwb.out, ← hob.out]
    have HL7 := Keep.mk hL7
    clear hL7 hkb hwb hob hP
    go_loopw [37] (fun i wr => ∃ (t : Nat) (Vv U : Nat → Value) (L : Nat → List Int) (tag : Nat → Nat), t ≤ m ∧ i = .int .i64 (t : Int) ∧ Keep ((L 0).length ≤ tot rows t ∧ (L 1).length ≤ tot rows t) ∧ Lays w1 ob wb kb P Vv U L tag wr) (fun i _ => m - (intOf i).toNat)
    case atStart => exact ⟨0, _, _, _, _, by omega, rfl, ⟨by simp⟩, HL7.out⟩
    case round =>
      clear HL7
      obtain ⟨t, Vv, U, L, tag, ht, rfl, hLl, hLs⟩ := hrel
      by_cases hlt : t < m
      · have hlt' : (t : Int) < (m : Int) := by omega
        obtain ⟨q, o, rfl, hrg⟩ := HR1.out.at hlt
        have hrg2 := rangeAt_below hrg hLs.below
        obtain ⟨va, vc, hv⟩ := row_form (HR1.out.row t hlt)
        have c0 := hrg2 0 _ rfl
        have c1 := hrg2 1 _ rfl
        have c2 := hrg2 2 _ rfl
        have c3 := hrg2 3 _ rfl
        simp only [Nat.add_zero] at c0
        rw [hv] at c3
        have htt := tot_le rows (t + 1) m hlt
        have HTt : Keep (tot rows (t + 1) = tot rows t + 32 + (rows t).length) := ⟨rfl⟩
        have HTm : Keep (tot rows (t + 1) ≤ 2147483647) := ⟨Nat.le_trans htt HT.out⟩
        have HRow : Keep (∀ wx, Below w1.heap.size w1 wx → RowAt wx (.slice va (rows t).length vc) (rows t)) := ⟨fun wx hx => by rw [← hv]; exact (HR1.out.row t hlt).below hx⟩
        have HLs := Keep.mk hLs
        clear hrg hrg2 hLs htt
        by_cases h1 : t < mt
        · have h1' : (t : Int) < (mt : Int) := by omega
          obtain ⟨tq, tof, rfl, htc⟩ := HTu.out.at h1
          have htc1 := (HB1.out.trans (HLs.out.below.mono HB1.out.size)).cell (p := ⟨tq, tof + t, none⟩) (cell_lt htc)
          rw [htc] at htc1
          clear htc
          by_cases h2 : B t = true
          · rw [h2] at htc1
            have htc2 := (below_new wr (.cells #[.int .i64 (Kd t), .int .u64 (X t : Int), .int .i64 (N t), .slice va (rows t).length vc] 43)).cell (p := ⟨tq, tof + t, none⟩) (cell_lt htc1)
            rw [htc1] at htc2
            go_wp2_with fail
            have hbx := Blk.new wr 43 #[.int .i64 (Kd t), .int .u64 (X t : Int), .int .i64 (N t), .slice va (rows t).length vc]
            have hL4 := HLs.out.later (below_new wr (.cells #[.int .i64 (Kd t), .int .u64 (X t : Int), .int .i64 (N t), .slice va (rows t).length vc] 43))
            have Hbxt : Keep (retag tag wr.heap.size (fun _ => 6) wr.heap.size = 6) := ⟨retag_ge (Nat.le_refl _)⟩
            generalize retag tag wr.heap.size (fun _ => 6) = tag4 at *
            generalize wr.alloc (.cells #[.int .i64 (Kd t), .int .u64 (X t : Int), .int .i64 (N t), .slice va (rows t).length vc] 43) = w4 at *
            have HL4 := Keep.mk hL4
            have HBx := Keep.mk hbx
            have HS4 : Keep (∀ wx, (Grown w4 wx fun k => OF (P 1) (Vv 1) k ∨ (U 1).ownBlock = some k ∨ k = wb) → wx.cell? ⟨ob, 1, none⟩ = some (ptr (P 1)) ∧ wx.rangeAt wr.heap.size 0 [.int .i64 (Kd t), .int .u64 (X t : Int), .int .i64 (N t), .slice va (rows t).length vc]) := ⟨fun wx hg => by
              obtain ⟨tb1, tb2, tb3⟩ := HL4.out.tb
              have hn : ∀ k, tag4 k ≠ 1 → tag4 k ≠ 2 + 1 → k ≠ wb → ¬ (OF (P 1) (Vv 1) k ∨ (U 1).ownBlock = some k ∨ k = wb) := fun k a b c hs => by
                rcases hs with hs | hs | hs
                · exact a (HL4.out.tO 1 (by decide) k hs)
                · exact b (HL4.out.tU 1 (by decide) k hs)
                · exact c hs
              have h1 := hg.blk HL4.out.bo (hn _ (by omega) (by omega) (blk_ne HL4.out.bo HL4.out.bw (by decide)))
              have h2 := hg.blk HBx.out (hn _ (by rw [Hbxt.out]; decide) (by rw [Hbxt.out]; decide) (blk_ne HBx.out HL4.out.bw (by decide)))
              exact ⟨by rw [h1.cell]; rfl, blk_range h2⟩⟩
            have hD0 : Grown w4 w4.drew (fun k => OF (P 1) (Vv 1) k ∨ (U 1).ownBlock = some k ∨ k = wb) := (Grown.refl _ _).drew
            have cU : w4.drew.cell? ⟨wb, 1, none⟩ = some (U 1) := by rw [(HL4.out.bw.drew).cell]; rfl
            have hi43 : (Try.prog.info? 43).map (·.size) = some ([.int .i64 (Kd t), .int .u64 (X t : Int), .int .i64 (N t), .slice va (rows t).length vc] : List Value).length := by kernel_rfl
            have hu := Try.underlying43
            clear hL4 hbx c0 c1 c2 c3
            refine wp_region_held_drew (S := fun wx => wx.cell? ⟨ob, 1, none⟩ = some (ptr (P 1)) ∧ wx.rangeAt wr.heap.size 0 [.int .i64 (Kd t), .int .u64 (X t : Int), .int .i64 (N t), .slice va (rows t).length vc]) (by kernel_rfl) (HS4.out _ hD0) (fun hHeld => ?_)
            refine wpAnyH_take (i := 0) (oi := ⟨some 52, Op.move (Operand.tmp 6), 37, _, _, none⟩) (v := .slice (some ⟨wb, 0, none⟩) 2 2) rfl (by kernel_rfl) (by kernel_rfl) (by kernel_rfl) (fun _ _ _ h => h) (Or.inl ⟨by rfl, fun w hS => by go_simp⟩) hHeld ?_
            simp only [Act.put, List.setIfInBounds_toArray, List.set_cons_zero, List.set_cons_succ]
            refine wpAnyH_take (i := 1) (oi := ⟨some 53, Op.move (Operand.tmp 10), 3, _, _, none⟩) (v := .int .i64 1) rfl (by kernel_rfl) (by kernel_rfl) (by kernel_rfl) (fun _ _ _ h => h) (Or.inl ⟨by rfl, fun w hS => by go_simp⟩) hHeld ?_
            simp only [Act.put, List.setIfInBounds_toArray, List.set_cons_zero, List.set_cons_succ]
            refine wpAnyH_take (i := 2) (oi := ⟨some 54, Op.move (Operand.tmp 5), 35, _, _, none⟩) (v := .slice (some ⟨ob, 0, none⟩) 2 2) rfl (by kernel_rfl) (by kernel_rfl) (by kernel_rfl) (fun _ _ _ h => h) (Or.inl ⟨by rfl, fun w hS => by go_simp⟩) hHeld ?_
            simp only [Act.put, List.setIfInBounds_toArray, List.set_cons_zero, List.set_cons_succ]
            refine wpAnyH_take (i := 3) (oi := ⟨some 55, Op.move (Operand.tmp 10), 3, _, _, none⟩) (v := .int .i64 1) rfl (by kernel_rfl) (by kernel_rfl) (by kernel_rfl) (fun _ _ _ h => h) (Or.inl ⟨by rfl, fun w hS => by go_simp⟩) hHeld ?_
            simp only [Act.put, List.setIfInBounds_toArray, List.set_cons_zero, List.set_cons_succ]
            refine wpAnyH_take (i := 4) (oi := ⟨some 56, Op.indexAddr 35 (Operand.tmp 54) (Operand.tmp 55), 0, _, _, none⟩) (v := .pointer (some ⟨ob, 1, none⟩)) rfl (by kernel_rfl) (by kernel_rfl) (by kernel_rfl) (fun _ _ _ h => h) (Or.inl ⟨by rfl, fun w hS => by go_simp⟩) hHeld ?_
            simp only [Act.put, List.setIfInBounds_toArray, List.set_cons_zero, List.set_cons_succ]
            refine wpAnyH_take (i := 5) (oi := ⟨some 57, Op.load 33 (Operand.tmp 56), 33, _, _, none⟩) (v := ptr (P 1)) rfl (by kernel_rfl) (by kernel_rfl) (by kernel_rfl) (fun _ _ _ h => h) (Or.inl ⟨by rfl, fun w hS => by (obtain ⟨hS1, hS2⟩ := hS; clear hS2; go_simp)⟩) hHeld ?_
            simp only [Act.put, List.setIfInBounds_toArray, List.set_cons_zero, List.set_cons_succ]
            refine wpAnyH_take (i := 6) (oi := ⟨some 58, Op.move (Operand.tmp 6), 37, _, _, none⟩) (v := .slice (some ⟨wb, 0, none⟩) 2 2) rfl (by kernel_rfl) (by kernel_rfl) (by kernel_rfl) (fun _ _ _ h => h) (Or.inl ⟨by rfl, fun w hS => by go_simp⟩) hHeld ?_
            simp only [Act.put, List.setIfInBounds_toArray, List.set_cons_zero, List.set_cons_succ]
            refine wpAnyH_take (i := 7) (oi := ⟨some 59, Op.move (Operand.tmp 10), 3, _, _, none⟩) (v := .int .i64 1) rfl (by kernel_rfl) (by kernel_rfl) (by kernel_rfl) (fun _ _ _ h => h) (Or.inl ⟨by rfl, fun w hS => by go_simp⟩) hHeld ?_
            simp only [Act.put, List.setIfInBounds_toArray, List.set_cons_zero, List.set_cons_succ]
            refine wpAnyH_take (i := 8) (oi := ⟨some 60, Op.indexAddr 37 (Operand.tmp 58) (Operand.tmp 59), 0, _, _, none⟩) (v := .pointer (some ⟨wb, 1, none⟩)) rfl (by kernel_rfl) (by kernel_rfl) (by kernel_rfl) (fun _ _ _ h => h) (Or.inl ⟨by rfl, fun w hS => by go_simp⟩) hHeld ?_
            simp only [Act.put, List.setIfInBounds_toArray, List.set_cons_zero, List.set_cons_succ]
            refine wpAnyH_take (i := 10) (oi := ⟨some 62, Op.load 43 (Operand.tmp 9), 43, _, _, none⟩) (v := .agg ([.int .i64 (Kd t), .int .u64 (X t : Int), .int .i64 (N t), .slice va (rows t).length vc]).toArray) rfl (by kernel_rfl) (by kernel_rfl) (by kernel_rfl) (fun _ _ _ h => h) (yieldsIf_load_mid (by rfl) 43 (Operand.tmp 9) rfl wr.heap.size 0 rfl [.int .i64 (Kd t), .int .u64 (X t : Int), .int .i64 (N t), .slice va (rows t).length vc] _ (fun w hS => hS.2) hu rfl hi43) hHeld ?_
            simp only [Act.put, List.setIfInBounds_toArray, List.set_cons_zero, List.set_cons_succ]
            refine wpAnyH_ready (rs := [9]) (by kernel_rfl) (by simp) ?_
            refine AllReadyH.cons (o := ⟨some 61, Op.load 36 (Operand.tmp 60), 36, _, _, none⟩) rfl (fun K hK => ?_) AllReadyH.nil
            rw [if_pos (by rfl)]
            refine wp_val (U 1) (by go_simp) (hK.out _ _ hHeld fun _ => ?_)
            clear hK
            simp only [Act.put, List.setIfInBounds_toArray, List.set_cons_zero, List.set_cons_succ]
            refine wpAnyH_ready (rs := [11]) (by kernel_rfl) (by simp) ?_
            refine AllReadyH.cons (o := ⟨some 63, Op.call { callee := Callee.value (Operand.func 12), args := #[Operand.tmp 57, Operand.tmp 61, Operand.tmp 62], argTypes := #[33, 36, 43] }, 36, _, _, none⟩) rfl (fun K hK => ?_) AllReadyH.nil
            rw [if_pos (by rfl)]
            refine wp_callF 12 _ _ rfl Try.enter12 #[ptr (P 1), U 1, .agg #[.int .i64 (Kd t), .int .u64 (X t : Int), .int .i64 (N t), .slice va (rows t).length vc]] (by simp [Act.eval]) (fun vz wz => LayedPost (P 1) (Vv 1) (U 1) (L 1 ++ frm (Kd t) (X t) (rows t)) (L 1 ++ frm (Kd t) (X t) (rows t)) w4 (.returned vz) wz) ?_ ?_
            · have hb40 : (L 1).length + (rows t).length + 40 ≤ 140737488355328 := by have := hLl.out; have := HTt.out; have := HTm.out; omega
              refine (lay_any (P 1) (Vv 1) (U 1) (.slice va (rows t).length vc) (L 1) (L 1) (rows t) (Kd t) (X t) (N t) w4.drew (HL4.out.out 1 (by decide)).drew (HL4.out.row 1 (by decide)).drew (fun k hk hf => by have := HL4.out.tU 1 (by decide) k hk; have := HL4.out.tO 1 (by decide) k hf; omega) (HRow.out _ HL4.out.below.drew) (fun wx hg => HRow.out wx (HL4.out.below.drew.trans (hg.to_below (fun k hk hf => ?_) HL4.out.below.size))) (HR1.out.num t hlt) (HR1.out.byts t hlt) hb40 hb40).mono ?_
              · have hbs := HL4.out.base k hk
                rcases hf with hf | hf
                · have := HL4.out.tO 1 (by decide) k hf; omega
                · have := HL4.out.tU 1 (by decide) k hf; omega
              · intro e wz hp
                obtain ⟨v', wv', rfl, q1, q2, q3, q4, q5, q6⟩ := hp
                exact ⟨wv', rfl, v', wv', rfl, q1, q2, q3, q4, q5, ⟨q6.os, q6.tape, q6.output, q6.size, q6.block⟩⟩
            rintro vz w5 ⟨v', wv', e, q1, q2, q3, q4, q5, q6⟩
            injection e with e
            subst e
            refine hK.out _ _ (HS4.out _ (q6.mono fun k _ hf => hf.elim .inl fun h => .inr (.inl h))) fun hHeld5 => ?_
            clear hK
            simp only [Act.put, List.setIfInBounds_toArray, List.set_cons_zero, List.set_cons_succ]
            refine wpAnyH_take (i := 12) (oi := ⟨some 64, Op.indexAddr 37 (Operand.tmp 52) (Operand.tmp 53), 0, _, _, none⟩) (v := .pointer (some ⟨wb, 1, none⟩)) rfl (by kernel_rfl) (by kernel_rfl) (by kernel_rfl) (fun _ _ _ h => h) (Or.inl ⟨by rfl, fun w hS => by go_simp⟩) hHeld5 ?_
            simp only [Act.put, List.setIfInBounds_toArray, List.set_cons_zero, List.set_cons_succ]
            have HLn := Keep.mk (HL4.out.layed (t := 1) (by decide) q1 q2 q3 q4 q5 q6)
            have hbw5 : Blk w5 wb 36 #[U 0, U 1] := q6.blk HL4.out.bw (by
              obtain ⟨tb1, tb2, tb3⟩ := HL4.out.tb
              rintro (hf | hf)
              · have := HL4.out.tO 1 (by decide) _ hf; omega
              · have := HL4.out.tU 1 (by decide) _ hf; omega)
            have cU5 : w5.cell? ⟨wb, 1, none⟩ = some (U 1) := by rw [hbw5.cell]; rfl
            have fU5 := hbw5.frozen 1
            have hS6 := HS4.out (w5.setCell ⟨wb, 1, none⟩ vz) ((q6.mono fun k _ hf => hf.elim .inl fun h => .inr (.inl h)).next (Grown.setCell w5 wb 1 vz (S := fun k => k = wb) fun _ => rfl) fun _ _ e => .inr (.inr e))
            obtain ⟨zk, hzk⟩ : ∃ k, vz.ownBlock = some k := by
              rcases q4 with e | ⟨k, e, _⟩
              · rw [e]; exact HL4.out.nn 1 (by decide)
              · exact ⟨k, e⟩
            obtain ⟨zg, zc, hvz⟩ : ∃ g c, vz = .slice (some ⟨g, 0, none⟩) (L 1 ++ frm (Kd t) (X t) (rows t)).length c := by
              rcases q2.form with ⟨e, _⟩ | ⟨g, c, _, e, _⟩
              · rw [e] at hzk; simp [Value.ownBlock] at hzk
              · exact ⟨g, c, e⟩
            obtain ⟨zn, hzn⟩ : ∃ zn, Keep (zn = (L 1 ++ frm (Kd t) (X t) (rows t)).length) := ⟨_, ⟨rfl⟩⟩
            rw [← hzn.out] at hvz
            subst hvz
            have HS6 := Keep.mk hS6
            clear q1 q2 q3 q4 q5 q6 hzk hbw5 hS6
            refine wpAnyH_ready (rs := [13]) (by kernel_rfl) (by simp) ?_
            refine AllReadyH.cons (o := ⟨none, Op.store 36 (Operand.tmp 64) (Operand.tmp 63), 0, _, _, none⟩) rfl (fun K hK => ?_) AllReadyH.nil
            rw [if_pos (by rfl)]
            go_simp
            refine hK.out _ _ HS6.out fun _ => ?_
            clear hK
            refine wpAnyH_done (by kernel_rfl) ?_ _
            have hbt6 : w5.setCell ⟨wb, 1, none⟩ (.slice (some ⟨zg, 0, none⟩) zn zc) = w5.setCell ⟨wb, 1, none⟩ (.slice (some ⟨zg, 0, none⟩) zn zc) := rfl
            clear hbt6
            have hLn := HLn.out
            generalize retag tag4 w4.heap.size (fun k => if Value.ownBlock (.slice (some ⟨zg, 0, none⟩) zn zc) = some k then 2 + 1 else if v'.ownBlock = some k then 1 else 6) = tag6 at *
            obtain ⟨w6, hw6⟩ : ∃ w6, Keep (w6 = w5.setCell ⟨wb, 1, none⟩ (.slice (some ⟨zg, 0, none⟩) zn zc)) := ⟨_, ⟨rfl⟩⟩
            rw [← hw6.out] at hLn HS6
            rw [← hw6.out]
            have dX : w6.cell? ⟨wr.heap.size, 1, none⟩ = some (.int .u64 (X t : Int)) := HS6.out.2 1 _ rfl
            have dK : w6.cell? ⟨wr.heap.size, 0, none⟩ = some (.int .i64 (Kd t)) := HS6.out.2 0 _ rfl
            have dW : w6.cell? ⟨wb, 1, none⟩ = some (.slice (some ⟨zg, 0, none⟩) zn zc) := by rw [hLn.bw.cell]; rfl
            have HLn6 := Keep.mk hLn
            have HXn := Keep.mk (HR1.out.num t hlt)
            clear hLn cU5 fU5 cU hw6 HLn hHeld hHeld5 HS4 HBx HL4 hD0
            have q36 : ∀ (w : World) (a : Option Addr) (n c n' c' : Nat), (binOp .eql 36 (.slice a n c) (.slice none n' c')).run Try.prog w = .ok (.bool a.isNone) w := fun w a n c n' c' => Lib.run_eql_slice_nil w _ _ a n c n' c' Try.underlying36
            go_wp2_with fail
            go_quiet (first | (go_at_call 13; refine Calls.quiet_of_same (size_any (X t) _ HXn.out)) | (go_at_call 14; refine Calls.quiet_of_same (rsize_any (X t) _ HXn.out)))
            obtain ⟨w7, hw7⟩ : ∃ w7, Keep (w7 = w6.drewN nq) := ⟨_, ⟨rfl⟩⟩
            rw [← hw7.out]
            have dK7 : w7.cell? ⟨wr.heap.size, 0, none⟩ = some (.int .i64 (Kd t)) := by rw [hw7.out]; exact dK
            have hL7 := HLn6.out.later (w' := w7) (by rw [hw7.out]; exact below_drewN w6 nq)
            have hLl7 : Keep ((updN L 1 (L 1 ++ frm (Kd t) (X t) (rows t)) 0).length ≤ tot rows (t + 1) ∧ (updN L 1 (L 1 ++ frm (Kd t) (X t) (rows t)) 1).length ≤ tot rows (t + 1)) := ⟨by
              have hf := frm_len (Kd t) (X t) (rows t)
              have h0 := hLl.out
              rw [HTt.out]
              constructor <;> (simp only [updN]; split <;> (try simp only [List.length_append]) <;> omega)⟩
            generalize retag tag6 w6.heap.size (fun _ => 6) = tag7 at *
            generalize updN Vv 1 v' = Vv7 at *
            generalize updN U 1 (.slice (some ⟨zg, 0, none⟩) zn zc) = U7 at *
            generalize updN L 1 (L 1 ++ frm (Kd t) (X t) (rows t)) = L7 at *
            have HL7 := Keep.mk hL7
            clear hL7 hw7 dX dK dW HLn6 HLs hLl HS6 hzn
            by_cases h7 : Kd t = 7
            · rw [h7] at dK7
              clear h7
              go_wp2
              go_loopw [11] (fun i wi => ∃ (n : Nat) (tagi : Nat → Nat), n ≤ 3 ∧ i = .int .i64 (n : Int) ∧ Lays w1 ob wb kb P Vv7 U7 L7 tagi wi) (fun i _ => 3 - (intOf i).toNat)
              case atStart => exact ⟨0, _, by omega, rfl, HL7.out⟩
              case round =>
                obtain ⟨n, tagi, hn, rfl, hLi⟩ := hrel
                clear HL7 dK7
                by_cases hn3 : n < 3
                · have hn3' : (n : Int) < 3 := by omega
                  have HLi := Keep.mk hLi
                  have cO : wr.cell? ⟨ob, 1, none⟩ = some (ptr (P 1)) := by rw [hLi.bo.cell]; rfl
                  have Hbl : Keep ((L7 1).length + 60 ≤ 140737488355328) := ⟨by have := hLl7.out; have := HTm.out; omega⟩
                  clear hLi
                  go_wp2_with fail
                  refine (odone_any (P 1) (Vv7 1) (L7 1) wr (HLi.out.out 1 (by decide)) (by have := Hbl.out; omega)).mono ?_
                  rintro e w8 ⟨rfl, hw8⟩
                  have HOwn := Keep.mk (own_done wr (L7 1) (by have := Hbl.out; omega))
                  rw [← hw8] at HOwn
                  have hbel : Below wr.heap.size wr w8 := by rw [hw8]; exact below_new _ _
                  have HL8 := Keep.mk (HLi.out.later hbel)
                  have Htg : Keep (retag tagi wr.heap.size (fun _ => 6) wr.heap.size = 6) := ⟨retag_ge (Nat.le_refl _)⟩
                  generalize retag tagi wr.heap.size (fun _ => 6) = tag8 at *
                  obtain ⟨zl, hzl⟩ : ∃ zl, Keep (zl = L7 1) := ⟨_, ⟨rfl⟩⟩
                  obtain ⟨st, hst⟩ : ∃ st, Keep (st = strOfNums zl) := ⟨_, ⟨rfl⟩⟩
                  rw [← hzl.out] at HOwn Hbl
                  rw [← hzl.out]
                  have cU8 : w8.cell? ⟨wb, 1, none⟩ = some (U7 1) := by rw [HL8.out.bw.cell]; rfl
                  have hcv1 : ∀ n, (convert 36 9 (.slice (some ⟨wr.heap.size, 0, none⟩) zl.length zl.length)).run Try.prog (w8.drewN n) = .ok (.string st) (w8.drewN n) := fun n => by rw [hst.out]; exact conv_row _ zl _ (HOwn.out.drewN n).row
                  have hcv2 : ∀ n, (convert 36 9 (U7 1)).run Try.prog (w8.drewN n) = .ok (.string st) (w8.drewN n) := fun n => by rw [hst.out, hzl.out]; exact conv_row _ _ _ ((HL8.out.row 1 (by decide)).drewN n).row
                  clear hw8 hbel HLi cO
                  go_wp2_with fail
                  go_quiet (fail)
                  obtain ⟨w9, hw9⟩ : ∃ w9, Keep (w9 = w8.drewN nq) := ⟨_, ⟨rfl⟩⟩
                  rw [← hw9.out]
                  have hb9 : Below w8.heap.size w8 w9 := by rw [hw9.out]; exact below_drewN w8 nq
                  have HO9 : Keep (Own w9 (.slice (some ⟨wr.heap.size, 0, none⟩) zl.length zl.length) zl) := ⟨by rw [hw9.out]; exact HOwn.out.drewN nq⟩
                  have hlt8 := HOwn.out.lt wr.heap.size rfl
                  have HL9 := Keep.mk (HL8.out.later hb9)
                  have Htg9 : Keep (retag tag8 w8.heap.size (fun _ => 6) wr.heap.size = 6) := ⟨by rw [retag_lt hlt8]; exact Htg.out⟩
                  generalize retag tag8 w8.heap.size (fun _ => 6) = tag9 at *
                  clear hw9 hb9 hcv1 hcv2 cU8 HOwn HL8 hlt8 Htg
                  go_wp2_with fail
                  refine (bookAdd HL9.out.bk (fun h => by have := HL9.out.tb; omega) HO9.out.tail (fun k hk h => by
                    simp [Value.ownBlock] at hk
                    have := Htg9.out
                    rw [hk] at this
                    omega) Hbl.out).mono ?_
                  intro e w10 hp
                  obtain ⟨rfl, hLa⟩ := HL9.out.added (fun k hk => ⟨by simp [Value.ownBlock] at hk; rw [← hk]; exact Htg9.out, HO9.out.lt k hk⟩) hp
                  have HLa := Keep.mk hLa
                  clear hLa hp HO9 HL9
                  go_wp2
                  go_roundw
                  case rel => exact ⟨n + 1, _, by omega, by go_num, HLa.out⟩
                  case measure => simp only [intOf]; omega
                · obtain rfl : n = 3 := by omega
                  have HLz := Keep.mk hLi
                  clear hLi
                  obtain ⟨wz, rfl⟩ : ∃ wz, wz = wr := ⟨_, rfl⟩
                  obtain ⟨tagz, rfl⟩ : ∃ tagz, tagz = tagi := ⟨_, rfl⟩
                  have c0 : wz.cell? ⟨ob, 0, none⟩ = some (ptr (P 0)) := by rw [HLz.out.bo.cell]; rfl
                  have c1 : wz.cell? ⟨ob, 1, none⟩ = some (ptr (P 1)) := by rw [HLz.out.bo.cell]; rfl
                  have u0 : wz.cell? ⟨wb, 0, none⟩ = some (U7 0) := by rw [HLz.out.bw.cell]; rfl
                  have u1 : wz.cell? ⟨wb, 1, none⟩ = some (U7 1) := by rw [HLz.out.bw.cell]; rfl
                  obtain ⟨ua0, uc0, hu0⟩ := row_form (HLz.out.row 0 (by decide)).row
                  obtain ⟨ua1, uc1, hu1⟩ := row_form (HLz.out.row 1 (by decide)).row
                  rw [hu0] at u0
                  rw [hu1] at u1
                  go_wp2_with fail
                  go_quiet (first | (go_at_call 17; refine Calls.quiet_of_same (olen_any (P 0) _ _ _ ((HLz.out.out 0 (by decide)).drewN _))) | (go_at_call 17; refine Calls.quiet_of_same (olen_any (P 1) _ _ _ ((HLz.out.out 1 (by decide)).drewN _))) | (go_at_call 18; refine Calls.quiet_of_same (bookStays (HLz.out.bk.drewN _))))
                  have HLe := Keep.mk (HLz.out.later (below_drewN wz nq))
                  clear c0 c1 u0 u1
                  go_wp2
                  go_roundw
                  case rel => exact ⟨t + 1, Vv7, U7, L7, _, by omega, by go_num, hLl7, HLe.out⟩
                  case measure => simp only [intOf]; omega
            · have HLz := Keep.mk HL7.out
              clear HL7
              obtain ⟨wz, rfl⟩ : ∃ wz, wz = w7 := ⟨_, rfl⟩
              obtain ⟨tagz, rfl⟩ : ∃ tagz, tagz = tag7 := ⟨_, rfl⟩
              have c0 : wz.cell? ⟨ob, 0, none⟩ = some (ptr (P 0)) := by rw [HLz.out.bo.cell]; rfl
              have c1 : wz.cell? ⟨ob, 1, none⟩ = some (ptr (P 1)) := by rw [HLz.out.bo.cell]; rfl
              have u0 : wz.cell? ⟨wb, 0, none⟩ = some (U7 0) := by rw [HLz.out.bw.cell]; rfl
              have u1 : wz.cell? ⟨wb, 1, none⟩ = some (U7 1) := by rw [HLz.out.bw.cell]; rfl
              obtain ⟨ua0, uc0, hu0⟩ := row_form (HLz.out.row 0 (by decide)).row
              obtain ⟨ua1, uc1, hu1⟩ := row_form (HLz.out.row 1 (by decide)).row
              rw [hu0] at u0
              rw [hu1] at u1
              go_wp2_with fail
              go_quiet (first | (go_at_call 17; refine Calls.quiet_of_same (olen_any (P 0) _ _ _ ((HLz.out.out 0 (by decide)).drewN _))) | (go_at_call 17; refine Calls.quiet_of_same (olen_any (P 1) _ _ _ ((HLz.out.out 1 (by decide)).drewN _))) | (go_at_call 18; refine Calls.quiet_of_same (bookStays (HLz.out.bk.drewN _))))
              have HLe := Keep.mk (HLz.out.later (below_drewN wz nq))
              clear c0 c1 u0 u1
              go_wp2
              go_roundw
              case rel => exact ⟨t + 1, Vv7, U7, L7, _, by omega, by go_num, hLl7, HLe.out⟩
              case measure => simp only [intOf]; omega
          · have h2' : B t = false := by simpa using h2
            rw [h2'] at htc1
            have htc2 := (below_new wr (.cells #[.int .i64 (Kd t), .int .u64 (X t : Int), .int .i64 (N t), .slice va (rows t).length vc] 43)).cell (p := ⟨tq, tof + t, none⟩) (cell_lt htc1)
            rw [htc1] at htc2
            clear h2
            go_wp2_with fail
            have hbx := Blk.new wr 43 #[.int .i64 (Kd t), .int .u64 (X t : Int), .int .i64 (N t), .slice va (rows t).length vc]
            have hL4 := HLs.out.later (below_new wr (.cells #[.int .i64 (Kd t), .int .u64 (X t : Int), .int .i64 (N t), .slice va (rows t).length vc] 43))
            have Hbxt : Keep (retag tag wr.heap.size (fun _ => 6) wr.heap.size = 6) := ⟨retag_ge (Nat.le_refl _)⟩
            generalize retag tag wr.heap.size (fun _ => 6) = tag4 at *
            generalize wr.alloc (.cells #[.int .i64 (Kd t), .int .u64 (X t : Int), .int .i64 (N t), .slice va (rows t).length vc] 43) = w4 at *
            have HL4 := Keep.mk hL4
            have HBx := Keep.mk hbx
            have HS4 : Keep (∀ wx, (Grown w4 wx fun k => OF (P 0) (Vv 0) k ∨ (U 0).ownBlock = some k ∨ k = wb) → wx.cell? ⟨ob, 0, none⟩ = some (ptr (P 0)) ∧ wx.rangeAt wr.heap.size 0 [.int .i64 (Kd t), .int .u64 (X t : Int), .int .i64 (N t), .slice va (rows t).length vc]) := ⟨fun wx hg => by
              obtain ⟨tb1, tb2, tb3⟩ := HL4.out.tb
              have hn : ∀ k, tag4 k ≠ 0 → tag4 k ≠ 2 + 0 → k ≠ wb → ¬ (OF (P 0) (Vv 0) k ∨ (U 0).ownBlock = some k ∨ k = wb) := fun k a b c hs => by
                rcases hs with hs | hs | hs
                · exact a (HL4.out.tO 0 (by decide) k hs)
                · exact b (HL4.out.tU 0 (by decide) k hs)
                · exact c hs
              have h1 := hg.blk HL4.out.bo (hn _ (by omega) (by omega) (blk_ne HL4.out.bo HL4.out.bw (by decide)))
              have h2 := hg.blk HBx.out (hn _ (by rw [Hbxt.out]; decide) (by rw [Hbxt.out]; decide) (blk_ne HBx.out HL4.out.bw (by decide)))
              exact ⟨by rw [h1.cell]; rfl, blk_range h2⟩⟩
            have hD0 : Grown w4 w4.drew (fun k => OF (P 0) (Vv 0) k ∨ (U 0).ownBlock = some k ∨ k = wb) := (Grown.refl _ _).drew
            have cU : w4.drew.cell? ⟨wb, 0, none⟩ = some (U 0) := by rw [(HL4.out.bw.drew).cell]; rfl
            have hi43 : (Try.prog.info? 43).map (·.size) = some ([.int .i64 (Kd t), .int .u64 (X t : Int), .int .i64 (N t), .slice va (rows t).length vc] : List Value).length := by kernel_rfl
            have hu := Try.underlying43
            clear hL4 hbx c0 c1 c2 c3
            refine wp_region_held_drew (S := fun wx => wx.cell? ⟨ob, 0, none⟩ = some (ptr (P 0)) ∧ wx.rangeAt wr.heap.size 0 [.int .i64 (Kd t), .int .u64 (X t : Int), .int .i64 (N t), .slice va (rows t).length vc]) (by kernel_rfl) (HS4.out _ hD0) (fun hHeld => ?_)
            refine wpAnyH_take (i := 0) (oi := ⟨some 52, Op.move (Operand.tmp 6), 37, _, _, none⟩) (v := .slice (some ⟨wb, 0, none⟩) 2 2) rfl (by kernel_rfl) (by kernel_rfl) (by kernel_rfl) (fun _ _ _ h => h) (Or.inl ⟨by rfl, fun w hS => by go_simp⟩) hHeld ?_
            simp only [Act.put, List.setIfInBounds_toArray, List.set_cons_zero, List.set_cons_succ]
            refine wpAnyH_take (i := 1) (oi := ⟨some 53, Op.move (Operand.tmp 10), 3, _, _, none⟩) (v := .int .i64 0) rfl (by kernel_rfl) (by kernel_rfl) (by kernel_rfl) (fun _ _ _ h => h) (Or.inl ⟨by rfl, fun w hS => by go_simp⟩) hHeld ?_
            simp only [Act.put, List.setIfInBounds_toArray, List.set_cons_zero, List.set_cons_succ]
            refine wpAnyH_take (i := 2) (oi := ⟨some 54, Op.move (Operand.tmp 5), 35, _, _, none⟩) (v := .slice (some ⟨ob, 0, none⟩) 2 2) rfl (by kernel_rfl) (by kernel_rfl) (by kernel_rfl) (fun _ _ _ h => h) (Or.inl ⟨by rfl, fun w hS => by go_simp⟩) hHeld ?_
            simp only [Act.put, List.setIfInBounds_toArray, List.set_cons_zero, List.set_cons_succ]
            refine wpAnyH_take (i := 3) (oi := ⟨some 55, Op.move (Operand.tmp 10), 3, _, _, none⟩) (v := .int .i64 0) rfl (by kernel_rfl) (by kernel_rfl) (by kernel_rfl) (fun _ _ _ h => h) (Or.inl ⟨by rfl, fun w hS => by go_simp⟩) hHeld ?_
            simp only [Act.put, List.setIfInBounds_toArray, List.set_cons_zero, List.set_cons_succ]
            refine wpAnyH_take (i := 4) (oi := ⟨some 56, Op.indexAddr 35 (Operand.tmp 54) (Operand.tmp 55), 0, _, _, none⟩) (v := .pointer (some ⟨ob, 0, none⟩)) rfl (by kernel_rfl) (by kernel_rfl) (by kernel_rfl) (fun _ _ _ h => h) (Or.inl ⟨by rfl, fun w hS => by go_simp⟩) hHeld ?_
            simp only [Act.put, List.setIfInBounds_toArray, List.set_cons_zero, List.set_cons_succ]
            refine wpAnyH_take (i := 5) (oi := ⟨some 57, Op.load 33 (Operand.tmp 56), 33, _, _, none⟩) (v := ptr (P 0)) rfl (by kernel_rfl) (by kernel_rfl) (by kernel_rfl) (fun _ _ _ h => h) (Or.inl ⟨by rfl, fun w hS => by (obtain ⟨hS1, hS2⟩ := hS; clear hS2; go_simp)⟩) hHeld ?_
            simp only [Act.put, List.setIfInBounds_toArray, List.set_cons_zero, List.set_cons_succ]
            refine wpAnyH_take (i := 6) (oi := ⟨some 58, Op.move (Operand.tmp 6), 37, _, _, none⟩) (v := .slice (some ⟨wb, 0, none⟩) 2 2) rfl (by kernel_rfl) (by kernel_rfl) (by kernel_rfl) (fun _ _ _ h => h) (Or.inl ⟨by rfl, fun w hS => by go_simp⟩) hHeld ?_
            simp only [Act.put, List.setIfInBounds_toArray, List.set_cons_zero, List.set_cons_succ]
            refine wpAnyH_take (i := 7) (oi := ⟨some 59, Op.move (Operand.tmp 10), 3, _, _, none⟩) (v := .int .i64 0) rfl (by kernel_rfl) (by kernel_rfl) (by kernel_rfl) (fun _ _ _ h => h) (Or.inl ⟨by rfl, fun w hS => by go_simp⟩) hHeld ?_
            simp only [Act.put, List.setIfInBounds_toArray, List.set_cons_zero, List.set_cons_succ]
            refine wpAnyH_take (i := 8) (oi := ⟨some 60, Op.indexAddr 37 (Operand.tmp 58) (Operand.tmp 59), 0, _, _, none⟩) (v := .pointer (some ⟨wb, 0, none⟩)) rfl (by kernel_rfl) (by kernel_rfl) (by kernel_rfl) (fun _ _ _ h => h) (Or.inl ⟨by rfl, fun w hS => by go_simp⟩) hHeld ?_
            simp only [Act.put, List.setIfInBounds_toArray, List.set_cons_zero, List.set_cons_succ]
            refine wpAnyH_take (i := 10) (oi := ⟨some 62, Op.load 43 (Operand.tmp 9), 43, _, _, none⟩) (v := .agg ([.int .i64 (Kd t), .int .u64 (X t : Int), .int .i64 (N t), .slice va (rows t).length vc]).toArray) rfl (by kernel_rfl) (by kernel_rfl) (by kernel_rfl) (fun _ _ _ h => h) (yieldsIf_load_mid (by rfl) 43 (Operand.tmp 9) rfl wr.heap.size 0 rfl [.int .i64 (Kd t), .int .u64 (X t : Int), .int .i64 (N t), .slice va (rows t).length vc] _ (fun w hS => hS.2) hu rfl hi43) hHeld ?_
            simp only [Act.put, List.setIfInBounds_toArray, List.set_cons_zero, List.set_cons_succ]
            refine wpAnyH_ready (rs := [9]) (by kernel_rfl) (by simp) ?_
            refine AllReadyH.cons (o := ⟨some 61, Op.load 36 (Operand.tmp 60), 36, _, _, none⟩) rfl (fun K hK => ?_) AllReadyH.nil
            rw [if_pos (by rfl)]
            refine wp_val (U 0) (by go_simp) (hK.out _ _ hHeld fun _ => ?_)
            clear hK
            simp only [Act.put, List.setIfInBounds_toArray, List.set_cons_zero, List.set_cons_succ]
            refine wpAnyH_ready (rs := [11]) (by kernel_rfl) (by simp) ?_
            refine AllReadyH.cons (o := ⟨some 63, Op.call { callee := Callee.value (Operand.func 12), args := #[Operand.tmp 57, Operand.tmp 61, Operand.tmp 62], argTypes := #[33, 36, 43] }, 36, _, _, none⟩) rfl (fun K hK => ?_) AllReadyH.nil
            rw [if_pos (by rfl)]
            refine wp_callF 12 _ _ rfl Try.enter12 #[ptr (P 0), U 0, .agg #[.int .i64 (Kd t), .int .u64 (X t : Int), .int .i64 (N t), .slice va (rows t).length vc]] (by simp [Act.eval]) (fun vz wz => LayedPost (P 0) (Vv 0) (U 0) (L 0 ++ frm (Kd t) (X t) (rows t)) (L 0 ++ frm (Kd t) (X t) (rows t)) w4 (.returned vz) wz) ?_ ?_
            · have hb40 : (L 0).length + (rows t).length + 40 ≤ 140737488355328 := by have := hLl.out; have := HTt.out; have := HTm.out; omega
              refine (lay_any (P 0) (Vv 0) (U 0) (.slice va (rows t).length vc) (L 0) (L 0) (rows t) (Kd t) (X t) (N t) w4.drew (HL4.out.out 0 (by decide)).drew (HL4.out.row 0 (by decide)).drew (fun k hk hf => by have := HL4.out.tU 0 (by decide) k hk; have := HL4.out.tO 0 (by decide) k hf; omega) (HRow.out _ HL4.out.below.drew) (fun wx hg => HRow.out wx (HL4.out.below.drew.trans (hg.to_below (fun k hk hf => ?_) HL4.out.below.size))) (HR1.out.num t hlt) (HR1.out.byts t hlt) hb40 hb40).mono ?_
              · have hbs := HL4.out.base k hk
                rcases hf with hf | hf
                · have := HL4.out.tO 0 (by decide) k hf; omega
                · have := HL4.out.tU 0 (by decide) k hf; omega
              · intro e wz hp
                obtain ⟨v', wv', rfl, q1, q2, q3, q4, q5, q6⟩ := hp
                exact ⟨wv', rfl, v', wv', rfl, q1, q2, q3, q4, q5, ⟨q6.os, q6.tape, q6.output, q6.size, q6.block⟩⟩
            rintro vz w5 ⟨v', wv', e, q1, q2, q3, q4, q5, q6⟩
            injection e with e
            subst e
            refine hK.out _ _ (HS4.out _ (q6.mono fun k _ hf => hf.elim .inl fun h => .inr (.inl h))) fun hHeld5 => ?_
            clear hK
            simp only [Act.put, List.setIfInBounds_toArray, List.set_cons_zero, List.set_cons_succ]
            refine wpAnyH_take (i := 12) (oi := ⟨some 64, Op.indexAddr 37 (Operand.tmp 52) (Operand.tmp 53), 0, _, _, none⟩) (v := .pointer (some ⟨wb, 0, none⟩)) rfl (by kernel_rfl) (by kernel_rfl) (by kernel_rfl) (fun _ _ _ h => h) (Or.inl ⟨by rfl, fun w hS => by go_simp⟩) hHeld5 ?_
            simp only [Act.put, List.setIfInBounds_toArray, List.set_cons_zero, List.set_cons_succ]
            have HLn := Keep.mk (HL4.out.layed (t := 0) (by decide) q1 q2 q3 q4 q5 q6)
            have hbw5 : Blk w5 wb 36 #[U 0, U 1] := q6.blk HL4.out.bw (by
              obtain ⟨tb1, tb2, tb3⟩ := HL4.out.tb
              rintro (hf | hf)
              · have := HL4.out.tO 0 (by decide) _ hf; omega
              · have := HL4.out.tU 0 (by decide) _ hf; omega)
            have cU5 : w5.cell? ⟨wb, 0, none⟩ = some (U 0) := by rw [hbw5.cell]; rfl
            have fU5 := hbw5.frozen 0
            have hS6 := HS4.out (w5.setCell ⟨wb, 0, none⟩ vz) ((q6.mono fun k _ hf => hf.elim .inl fun h => .inr (.inl h)).next (Grown.setCell w5 wb 0 vz (S := fun k => k = wb) fun _ => rfl) fun _ _ e => .inr (.inr e))
            obtain ⟨zk, hzk⟩ : ∃ k, vz.ownBlock = some k := by
              rcases q4 with e | ⟨k, e, _⟩
              · rw [e]; exact HL4.out.nn 0 (by decide)
              · exact ⟨k, e⟩
            obtain ⟨zg, zc, hvz⟩ : ∃ g c, vz = .slice (some ⟨g, 0, none⟩) (L 0 ++ frm (Kd t) (X t) (rows t)).length c := by
              rcases q2.form with ⟨e, _⟩ | ⟨g, c, _, e, _⟩
              · rw [e] at hzk; simp [Value.ownBlock] at hzk
              · exact ⟨g, c, e⟩
            obtain ⟨zn, hzn⟩ : ∃ zn, Keep (zn = (L 0 ++ frm (Kd t) (X t) (rows t)).length) := ⟨_, ⟨rfl⟩⟩
            rw [← hzn.out] at hvz
            subst hvz
            have HS6 := Keep.mk hS6
            clear q1 q2 q3 q4 q5 q6 hzk hbw5 hS6
            refine wpAnyH_ready (rs := [13]) (by kernel_rfl) (by simp) ?_
            refine AllReadyH.cons (o := ⟨none, Op.store 36 (Operand.tmp 64) (Operand.tmp 63), 0, _, _, none⟩) rfl (fun K hK => ?_) AllReadyH.nil
            rw [if_pos (by rfl)]
            go_simp
            refine hK.out _ _ HS6.out fun _ => ?_
            clear hK
            refine wpAnyH_done (by kernel_rfl) ?_ _
            have hbt6 : w5.setCell ⟨wb, 0, none⟩ (.slice (some ⟨zg, 0, none⟩) zn zc) = w5.setCell ⟨wb, 0, none⟩ (.slice (some ⟨zg, 0, none⟩) zn zc) := rfl
            clear hbt6
            have hLn := HLn.out
            generalize retag tag4 w4.heap.size (fun k => if Value.ownBlock (.slice (some ⟨zg, 0, none⟩) zn zc) = some k then 2 + 0 else if v'.ownBlock = some k then 0 else 6) = tag6 at *
            obtain ⟨w6, hw6⟩ : ∃ w6, Keep (w6 = w5.setCell ⟨wb, 0, none⟩ (.slice (some ⟨zg, 0, none⟩) zn zc)) := ⟨_, ⟨rfl⟩⟩
            rw [← hw6.out] at hLn HS6
            rw [← hw6.out]
            have dX : w6.cell? ⟨wr.heap.size, 1, none⟩ = some (.int .u64 (X t : Int)) := HS6.out.2 1 _ rfl
            have dK : w6.cell? ⟨wr.heap.size, 0, none⟩ = some (.int .i64 (Kd t)) := HS6.out.2 0 _ rfl
            have dW : w6.cell? ⟨wb, 0, none⟩ = some (.slice (some ⟨zg, 0, none⟩) zn zc) := by rw [hLn.bw.cell]; rfl
            have HLn6 := Keep.mk hLn
            have HXn := Keep.mk (HR1.out.num t hlt)
            clear hLn cU5 fU5 cU hw6 HLn hHeld hHeld5 HS4 HBx HL4 hD0
            have q36 : ∀ (w : World) (a : Option Addr) (n c n' c' : Nat), (binOp .eql 36 (.slice a n c) (.slice none n' c')).run Try.prog w = .ok (.bool a.isNone) w := fun w a n c n' c' => Lib.run_eql_slice_nil w _ _ a n c n' c' Try.underlying36
            go_wp2_with fail
            go_quiet (first | (go_at_call 13; refine Calls.quiet_of_same (size_any (X t) _ HXn.out)) | (go_at_call 14; refine Calls.quiet_of_same (rsize_any (X t) _ HXn.out)))
            obtain ⟨w7, hw7⟩ : ∃ w7, Keep (w7 = w6.drewN nq) := ⟨_, ⟨rfl⟩⟩
            rw [← hw7.out]
            have dK7 : w7.cell? ⟨wr.heap.size, 0, none⟩ = some (.int .i64 (Kd t)) := by rw [hw7.out]; exact dK
            have hL7 := HLn6.out.later (w' := w7) (by rw [hw7.out]; exact below_drewN w6 nq)
            have hLl7 : Keep ((updN L 0 (L 0 ++ frm (Kd t) (X t) (rows t)) 0).length ≤ tot rows (t + 1) ∧ (updN L 0 (L 0 ++ frm (Kd t) (X t) (rows t)) 1).length ≤ tot rows (t + 1)) := ⟨by
              have hf := frm_len (Kd t) (X t) (rows t)
              have h0 := hLl.out
              rw [HTt.out]
              constructor <;> (simp only [updN]; split <;> (try simp only [List.length_append]) <;> omega)⟩
            generalize retag tag6 w6.heap.size (fun _ => 6) = tag7 at *
            generalize updN Vv 0 v' = Vv7 at *
            generalize updN U 0 (.slice (some ⟨zg, 0, none⟩) zn zc) = U7 at *
            generalize updN L 0 (L 0 ++ frm (Kd t) (X t) (rows t)) = L7 at *
            have HL7 := Keep.mk hL7
            clear hL7 hw7 dX dK dW HLn6 HLs hLl HS6 hzn
            by_cases h7 : Kd t = 7
            · rw [h7] at dK7
              clear h7
              go_wp2
              go_loopw [11] (fun i wi => ∃ (n : Nat) (tagi : Nat → Nat), n ≤ 3 ∧ i = .int .i64 (n : Int) ∧ Lays w1 ob wb kb P Vv7 U7 L7 tagi wi) (fun i _ => 3 - (intOf i).toNat)
              case atStart => exact ⟨0, _, by omega, rfl, HL7.out⟩
              case round =>
                obtain ⟨n, tagi, hn, rfl, hLi⟩ := hrel
                clear HL7 dK7
                by_cases hn3 : n < 3
                · have hn3' : (n : Int) < 3 := by omega
                  have HLi := Keep.mk hLi
                  have cO : wr.cell? ⟨ob, 0, none⟩ = some (ptr (P 0)) := by rw [hLi.bo.cell]; rfl
                  have Hbl : Keep ((L7 0).length + 60 ≤ 140737488355328) := ⟨by have := hLl7.out; have := HTm.out; omega⟩
                  clear hLi
                  go_wp2_with fail
                  refine (odone_any (P 0) (Vv7 0) (L7 0) wr (HLi.out.out 0 (by decide)) (by have := Hbl.out; omega)).mono ?_
                  rintro e w8 ⟨rfl, hw8⟩
                  have HOwn := Keep.mk (own_done wr (L7 0) (by have := Hbl.out; omega))
                  rw [← hw8] at HOwn
                  have hbel : Below wr.heap.size wr w8 := by rw [hw8]; exact below_new _ _
                  have HL8 := Keep.mk (HLi.out.later hbel)
                  have Htg : Keep (retag tagi wr.heap.size (fun _ => 6) wr.heap.size = 6) := ⟨retag_ge (Nat.le_refl _)⟩
                  generalize retag tagi wr.heap.size (fun _ => 6) = tag8 at *
                  obtain ⟨zl, hzl⟩ : ∃ zl, Keep (zl = L7 0) := ⟨_, ⟨rfl⟩⟩
                  obtain ⟨st, hst⟩ : ∃ st, Keep (st = strOfNums zl) := ⟨_, ⟨rfl⟩⟩
                  rw [← hzl.out] at HOwn Hbl
                  rw [← hzl.out]
                  have cU8 : w8.cell? ⟨wb, 0, none⟩ = some (U7 0) := by rw [HL8.out.bw.cell]; rfl
                  have hcv1 : ∀ n, (convert 36 9 (.slice (some ⟨wr.heap.size, 0, none⟩) zl.length zl.length)).run Try.prog (w8.drewN n) = .ok (.string st) (w8.drewN n) := fun n => by rw [hst.out]; exact conv_row _ zl _ (HOwn.out.drewN n).row
                  have hcv2 : ∀ n, (convert 36 9 (U7 0)).run Try.prog (w8.drewN n) = .ok (.string st) (w8.drewN n) := fun n => by rw [hst.out, hzl.out]; exact conv_row _ _ _ ((HL8.out.row 0 (by decide)).drewN n).row
                  clear hw8 hbel HLi cO
                  go_wp2_with fail
                  go_quiet (fail)
                  obtain ⟨w9, hw9⟩ : ∃ w9, Keep (w9 = w8.drewN nq) := ⟨_, ⟨rfl⟩⟩
                  rw [← hw9.out]
                  have hb9 : Below w8.heap.size w8 w9 := by rw [hw9.out]; exact below_drewN w8 nq
                  have HO9 : Keep (Own w9 (.slice (some ⟨wr.heap.size, 0, none⟩) zl.length zl.length) zl) := ⟨by rw [hw9.out]; exact HOwn.out.drewN nq⟩
                  have hlt8 := HOwn.out.lt wr.heap.size rfl
                  have HL9 := Keep.mk (HL8.out.later hb9)
                  have Htg9 : Keep (retag tag8 w8.heap.size (fun _ => 6) wr.heap.size = 6) := ⟨by rw [retag_lt hlt8]; exact Htg.out⟩
                  generalize retag tag8 w8.heap.size (fun _ => 6) = tag9 at *
                  clear hw9 hb9 hcv1 hcv2 cU8 HOwn HL8 hlt8 Htg
                  go_wp2_with fail
                  refine (bookAdd HL9.out.bk (fun h => by have := HL9.out.tb; omega) HO9.out.tail (fun k hk h => by
                    simp [Value.ownBlock] at hk
                    have := Htg9.out
                    rw [hk] at this
                    omega) Hbl.out).mono ?_
                  intro e w10 hp
                  obtain ⟨rfl, hLa⟩ := HL9.out.added (fun k hk => ⟨by simp [Value.ownBlock] at hk; rw [← hk]; exact Htg9.out, HO9.out.lt k hk⟩) hp
                  have HLa := Keep.mk hLa
                  clear hLa hp HO9 HL9
                  go_wp2
                  go_roundw
                  case rel => exact ⟨n + 1, _, by omega, by go_num, HLa.out⟩
                  case measure => simp only [intOf]; omega
                · obtain rfl : n = 3 := by omega
                  have HLz := Keep.mk hLi
                  clear hLi
                  obtain ⟨wz, rfl⟩ : ∃ wz, wz = wr := ⟨_, rfl⟩
                  obtain ⟨tagz, rfl⟩ : ∃ tagz, tagz = tagi := ⟨_, rfl⟩
                  have c0 : wz.cell? ⟨ob, 0, none⟩ = some (ptr (P 0)) := by rw [HLz.out.bo.cell]; rfl
                  have c1 : wz.cell? ⟨ob, 1, none⟩ = some (ptr (P 1)) := by rw [HLz.out.bo.cell]; rfl
                  have u0 : wz.cell? ⟨wb, 0, none⟩ = some (U7 0) := by rw [HLz.out.bw.cell]; rfl
                  have u1 : wz.cell? ⟨wb, 1, none⟩ = some (U7 1) := by rw [HLz.out.bw.cell]; rfl
                  obtain ⟨ua0, uc0, hu0⟩ := row_form (HLz.out.row 0 (by decide)).row
                  obtain ⟨ua1, uc1, hu1⟩ := row_form (HLz.out.row 1 (by decide)).row
                  rw [hu0] at u0
                  rw [hu1] at u1
                  go_wp2_with fail
                  go_quiet (first | (go_at_call 17; refine Calls.quiet_of_same (olen_any (P 0) _ _ _ ((HLz.out.out 0 (by decide)).drewN _))) | (go_at_call 17; refine Calls.quiet_of_same (olen_any (P 1) _ _ _ ((HLz.out.out 1 (by decide)).drewN _))) | (go_at_call 18; refine Calls.quiet_of_same (bookStays (HLz.out.bk.drewN _))))
                  have HLe := Keep.mk (HLz.out.later (below_drewN wz nq))
                  clear c0 c1 u0 u1
                  go_wp2
                  go_roundw
                  case rel => exact ⟨t + 1, Vv7, U7, L7, _, by omega, by go_num, hLl7, HLe.out⟩
                  case measure => simp only [intOf]; omega
            · have HLz := Keep.mk HL7.out
              clear HL7
              obtain ⟨wz, rfl⟩ : ∃ wz, wz = w7 := ⟨_, rfl⟩
              obtain ⟨tagz, rfl⟩ : ∃ tagz, tagz = tag7 := ⟨_, rfl⟩
              have c0 : wz.cell? ⟨ob, 0, none⟩ = some (ptr (P 0)) := by rw [HLz.out.bo.cell]; rfl
              have c1 : wz.cell? ⟨ob, 1, none⟩ = some (ptr (P 1)) := by rw [HLz.out.bo.cell]; rfl
              have u0 : wz.cell? ⟨wb, 0, none⟩ = some (U7 0) := by rw [HLz.out.bw.cell]; rfl
              have u1 : wz.cell? ⟨wb, 1, none⟩ = some (U7 1) := by rw [HLz.out.bw.cell]; rfl
              obtain ⟨ua0, uc0, hu0⟩ := row_form (HLz.out.row 0 (by decide)).row
              obtain ⟨ua1, uc1, hu1⟩ := row_form (HLz.out.row 1 (by decide)).row
              rw [hu0] at u0
              rw [hu1] at u1
              go_wp2_with fail
              go_quiet (first | (go_at_call 17; refine Calls.quiet_of_same (olen_any (P 0) _ _ _ ((HLz.out.out 0 (by decide)).drewN _))) | (go_at_call 17; refine Calls.quiet_of_same (olen_any (P 1) _ _ _ ((HLz.out.out 1 (by decide)).drewN _))) | (go_at_call 18; refine Calls.quiet_of_same (bookStays (HLz.out.bk.drewN _))))
              have HLe := Keep.mk (HLz.out.later (below_drewN wz nq))
              clear c0 c1 u0 u1
              go_wp2
              go_roundw
              case rel => exact ⟨t + 1, Vv7, U7, L7, _, by omega, by go_num, hLl7, HLe.out⟩
              case measure => simp only [intOf]; omega
        · have h1' : ¬ (t : Int) < (mt : Int) := by omega
          go_wp2_with fail
          have hbx := Blk.new wr 43 #[.int .i64 (Kd t), .int .u64 (X t : Int), .int .i64 (N t), .slice va (rows t).length vc]
          have hL4 := HLs.out.later (below_new wr (.cells #[.int .i64 (Kd t), .int .u64 (X t : Int), .int .i64 (N t), .slice va (rows t).length vc] 43))
          have Hbxt : Keep (retag tag wr.heap.size (fun _ => 6) wr.heap.size = 6) := ⟨retag_ge (Nat.le_refl _)⟩
          generalize retag tag wr.heap.size (fun _ => 6) = tag4 at *
          generalize wr.alloc (.cells #[.int .i64 (Kd t), .int .u64 (X t : Int), .int .i64 (N t), .slice va (rows t).length vc] 43) = w4 at *
          have HL4 := Keep.mk hL4
          have HBx := Keep.mk hbx
          have HS4 : Keep (∀ wx, (Grown w4 wx fun k => OF (P 0) (Vv 0) k ∨ (U 0).ownBlock = some k ∨ k = wb) → wx.cell? ⟨ob, 0, none⟩ = some (ptr (P 0)) ∧ wx.rangeAt wr.heap.size 0 [.int .i64 (Kd t), .int .u64 (X t : Int), .int .i64 (N t), .slice va (rows t).length vc]) := ⟨fun wx hg => by
            obtain ⟨tb1, tb2, tb3⟩ := HL4.out.tb
            have hn : ∀ k, tag4 k ≠ 0 → tag4 k ≠ 2 + 0 → k ≠ wb → ¬ (OF (P 0) (Vv 0) k ∨ (U 0).ownBlock = some k ∨ k = wb) := fun k a b c hs => by
              rcases hs with hs | hs | hs
              · exact a (HL4.out.tO 0 (by decide) k hs)
              · exact b (HL4.out.tU 0 (by decide) k hs)
              · exact c hs
            have h1 := hg.blk HL4.out.bo (hn _ (by omega) (by omega) (blk_ne HL4.out.bo HL4.out.bw (by decide)))
            have h2 := hg.blk HBx.out (hn _ (by rw [Hbxt.out]; decide) (by rw [Hbxt.out]; decide) (blk_ne HBx.out HL4.out.bw (by decide)))
            exact ⟨by rw [h1.cell]; rfl, blk_range h2⟩⟩
          have hD0 : Grown w4 w4.drew (fun k => OF (P 0) (Vv 0) k ∨ (U 0).ownBlock = some k ∨ k = wb) := (Grown.refl _ _).drew
          have cU : w4.drew.cell? ⟨wb, 0, none⟩ = some (U 0) := by rw [(HL4.out.bw.drew).cell]; rfl
          have hi43 : (Try.prog.info? 43).map (·.size) = some ([.int .i64 (Kd t), .int .u64 (X t : Int), .int .i64 (N t), .slice va (rows t).length vc] : List Value).length := by kernel_rfl
          have hu := Try.underlying43
          clear hL4 hbx c0 c1 c2 c3
          refine wp_region_held_drew (S := fun wx => wx.cell? ⟨ob, 0, none⟩ = some (ptr (P 0)) ∧ wx.rangeAt wr.heap.size 0 [.int .i64 (Kd t), .int .u64 (X t : Int), .int .i64 (N t), .slice va (rows t).length vc]) (by kernel_rfl) (HS4.out _ hD0) (fun hHeld => ?_)
          refine wpAnyH_take (i := 0) (oi := ⟨some 52, Op.move (Operand.tmp 6), 37, _, _, none⟩) (v := .slice (some ⟨wb, 0, none⟩) 2 2) rfl (by kernel_rfl) (by kernel_rfl) (by kernel_rfl) (fun _ _ _ h => h) (Or.inl ⟨by rfl, fun w hS => by go_simp⟩) hHeld ?_
          simp only [Act.put, List.setIfInBounds_toArray, List.set_cons_zero, List.set_cons_succ]
          refine wpAnyH_take (i := 1) (oi := ⟨some 53, Op.move (Operand.tmp 10), 3, _, _, none⟩) (v := .int .i64 0) rfl (by kernel_rfl) (by kernel_rfl) (by kernel_rfl) (fun _ _ _ h => h) (Or.inl ⟨by rfl, fun w hS => by go_simp⟩) hHeld ?_
          simp only [Act.put, List.setIfInBounds_toArray, List.set_cons_zero, List.set_cons_succ]
          refine wpAnyH_take (i := 2) (oi := ⟨some 54, Op.move (Operand.tmp 5), 35, _, _, none⟩) (v := .slice (some ⟨ob, 0, none⟩) 2 2) rfl (by kernel_rfl) (by kernel_rfl) (by kernel_rfl) (fun _ _ _ h => h) (Or.inl ⟨by rfl, fun w hS => by go_simp⟩) hHeld ?_
          simp only [Act.put, List.setIfInBounds_toArray, List.set_cons_zero, List.set_cons_succ]
          refine wpAnyH_take (i := 3) (oi := ⟨some 55, Op.move (Operand.tmp 10), 3, _, _, none⟩) (v := .int .i64 0) rfl (by kernel_rfl) (by kernel_rfl) (by kernel_rfl) (fun _ _ _ h => h) (Or.inl ⟨by rfl, fun w hS => by go_simp⟩) hHeld ?_
          simp only [Act.put, List.setIfInBounds_toArray, List.set_cons_zero, List.set_cons_succ]
          refine wpAnyH_take (i := 4) (oi := ⟨some 56, Op.indexAddr 35 (Operand.tmp 54) (Operand.tmp 55), 0, _, _, none⟩) (v := .pointer (some ⟨ob, 0, none⟩)) rfl (by kernel_rfl) (by kernel_rfl) (by kernel_rfl) (fun _ _ _ h => h) (Or.inl ⟨by rfl, fun w hS => by go_simp⟩) hHeld ?_
          simp only [Act.put, List.setIfInBounds_toArray, List.set_cons_zero, List.set_cons_succ]
          refine wpAnyH_take (i := 5) (oi := ⟨some 57, Op.load 33 (Operand.tmp 56), 33, _, _, none⟩) (v := ptr (P 0)) rfl (by kernel_rfl) (by kernel_rfl) (by kernel_rfl) (fun _ _ _ h => h) (Or.inl ⟨by rfl, fun w hS => by (obtain ⟨hS1, hS2⟩ := hS; clear hS2; go_simp)⟩) hHeld ?_
          simp only [Act.put, List.setIfInBounds_toArray, List.set_cons_zero, List.set_cons_succ]
          refine wpAnyH_take (i := 6) (oi := ⟨some 58, Op.move (Operand.tmp 6), 37, _, _, none⟩) (v := .slice (some ⟨wb, 0, none⟩) 2 2) rfl (by kernel_rfl) (by kernel_rfl) (by kernel_rfl) (fun _ _ _ h => h) (Or.inl ⟨by rfl, fun w hS => by go_simp⟩) hHeld ?_
          simp only [Act.put, List.setIfInBounds_toArray, List.set_cons_zero, List.set_cons_succ]
          refine wpAnyH_take (i := 7) (oi := ⟨some 59, Op.move (Operand.tmp 10), 3, _, _, none⟩) (v := .int .i64 0) rfl (by kernel_rfl) (by kernel_rfl) (by kernel_rfl) (fun _ _ _ h => h) (Or.inl ⟨by rfl, fun w hS => by go_simp⟩) hHeld ?_
          simp only [Act.put, List.setIfInBounds_toArray, List.set_cons_zero, List.set_cons_succ]
          refine wpAnyH_take (i := 8) (oi := ⟨some 60, Op.indexAddr 37 (Operand.tmp 58) (Operand.tmp 59), 0, _, _, none⟩) (v := .pointer (some ⟨wb, 0, none⟩)) rfl (by kernel_rfl) (by kernel_rfl) (by kernel_rfl) (fun _ _ _ h => h) (Or.inl ⟨by rfl, fun w hS => by go_simp⟩) hHeld ?_
          simp only [Act.put, List.setIfInBounds_toArray, List.set_cons_zero, List.set_cons_succ]
          refine wpAnyH_take (i := 10) (oi := ⟨some 62, Op.load 43 (Operand.tmp 9), 43, _, _, none⟩) (v := .agg ([.int .i64 (Kd t), .int .u64 (X t : Int), .int .i64 (N t), .slice va (rows t).length vc]).toArray) rfl (by kernel_rfl) (by kernel_rfl) (by kernel_rfl) (fun _ _ _ h => h) (yieldsIf_load_mid (by rfl) 43 (Operand.tmp 9) rfl wr.heap.size 0 rfl [.int .i64 (Kd t), .int .u64 (X t : Int), .int .i64 (N t), .slice va (rows t).length vc] _ (fun w hS => hS.2) hu rfl hi43) hHeld ?_
          simp only [Act.put, List.setIfInBounds_toArray, List.set_cons_zero, List.set_cons_succ]
          refine wpAnyH_ready (rs := [9]) (by kernel_rfl) (by simp) ?_
          refine AllReadyH.cons (o := ⟨some 61, Op.load 36 (Operand.tmp 60), 36, _, _, none⟩) rfl (fun K hK => ?_) AllReadyH.nil
          rw [if_pos (by rfl)]
          refine wp_val (U 0) (by go_simp) (hK.out _ _ hHeld fun _ => ?_)
          clear hK
          simp only [Act.put, List.setIfInBounds_toArray, List.set_cons_zero, List.set_cons_succ]
          refine wpAnyH_ready (rs := [11]) (by kernel_rfl) (by simp) ?_
          refine AllReadyH.cons (o := ⟨some 63, Op.call { callee := Callee.value (Operand.func 12), args := #[Operand.tmp 57, Operand.tmp 61, Operand.tmp 62], argTypes := #[33, 36, 43] }, 36, _, _, none⟩) rfl (fun K hK => ?_) AllReadyH.nil
          rw [if_pos (by rfl)]
          refine wp_callF 12 _ _ rfl Try.enter12 #[ptr (P 0), U 0, .agg #[.int .i64 (Kd t), .int .u64 (X t : Int), .int .i64 (N t), .slice va (rows t).length vc]] (by simp [Act.eval]) (fun vz wz => LayedPost (P 0) (Vv 0) (U 0) (L 0 ++ frm (Kd t) (X t) (rows t)) (L 0 ++ frm (Kd t) (X t) (rows t)) w4 (.returned vz) wz) ?_ ?_
          · have hb40 : (L 0).length + (rows t).length + 40 ≤ 140737488355328 := by have := hLl.out; have := HTt.out; have := HTm.out; omega
            refine (lay_any (P 0) (Vv 0) (U 0) (.slice va (rows t).length vc) (L 0) (L 0) (rows t) (Kd t) (X t) (N t) w4.drew (HL4.out.out 0 (by decide)).drew (HL4.out.row 0 (by decide)).drew (fun k hk hf => by have := HL4.out.tU 0 (by decide) k hk; have := HL4.out.tO 0 (by decide) k hf; omega) (HRow.out _ HL4.out.below.drew) (fun wx hg => HRow.out wx (HL4.out.below.drew.trans (hg.to_below (fun k hk hf => ?_) HL4.out.below.size))) (HR1.out.num t hlt) (HR1.out.byts t hlt) hb40 hb40).mono ?_
            · have hbs := HL4.out.base k hk
              rcases hf with hf | hf
              · have := HL4.out.tO 0 (by decide) k hf; omega
              · have := HL4.out.tU 0 (by decide) k hf; omega
            · intro e wz hp
              obtain ⟨v', wv', rfl, q1, q2, q3, q4, q5, q6⟩ := hp
              exact ⟨wv', rfl, v', wv', rfl, q1, q2, q3, q4, q5, ⟨q6.os, q6.tape, q6.output, q6.size, q6.block⟩⟩
          rintro vz w5 ⟨v', wv', e, q1, q2, q3, q4, q5, q6⟩
          injection e with e
          subst e
          refine hK.out _ _ (HS4.out _ (q6.mono fun k _ hf => hf.elim .inl fun h => .inr (.inl h))) fun hHeld5 => ?_
          clear hK
          simp only [Act.put, List.setIfInBounds_toArray, List.set_cons_zero, List.set_cons_succ]
          refine wpAnyH_take (i := 12) (oi := ⟨some 64, Op.indexAddr 37 (Operand.tmp 52) (Operand.tmp 53), 0, _, _, none⟩) (v := .pointer (some ⟨wb, 0, none⟩)) rfl (by kernel_rfl) (by kernel_rfl) (by kernel_rfl) (fun _ _ _ h => h) (Or.inl ⟨by rfl, fun w hS => by go_simp⟩) hHeld5 ?_
          simp only [Act.put, List.setIfInBounds_toArray, List.set_cons_zero, List.set_cons_succ]
          have HLn := Keep.mk (HL4.out.layed (t := 0) (by decide) q1 q2 q3 q4 q5 q6)
          have hbw5 : Blk w5 wb 36 #[U 0, U 1] := q6.blk HL4.out.bw (by
            obtain ⟨tb1, tb2, tb3⟩ := HL4.out.tb
            rintro (hf | hf)
            · have := HL4.out.tO 0 (by decide) _ hf; omega
            · have := HL4.out.tU 0 (by decide) _ hf; omega)
          have cU5 : w5.cell? ⟨wb, 0, none⟩ = some (U 0) := by rw [hbw5.cell]; rfl
          have fU5 := hbw5.frozen 0
          have hS6 := HS4.out (w5.setCell ⟨wb, 0, none⟩ vz) ((q6.mono fun k _ hf => hf.elim .inl fun h => .inr (.inl h)).next (Grown.setCell w5 wb 0 vz (S := fun k => k = wb) fun _ => rfl) fun _ _ e => .inr (.inr e))
          obtain ⟨zk, hzk⟩ : ∃ k, vz.ownBlock = some k := by
            rcases q4 with e | ⟨k, e, _⟩
            · rw [e]; exact HL4.out.nn 0 (by decide)
            · exact ⟨k, e⟩
          obtain ⟨zg, zc, hvz⟩ : ∃ g c, vz = .slice (some ⟨g, 0, none⟩) (L 0 ++ frm (Kd t) (X t) (rows t)).length c := by
            rcases q2.form with ⟨e, _⟩ | ⟨g, c, _, e, _⟩
            · rw [e] at hzk; simp [Value.ownBlock] at hzk
            · exact ⟨g, c, e⟩
          obtain ⟨zn, hzn⟩ : ∃ zn, Keep (zn = (L 0 ++ frm (Kd t) (X t) (rows t)).length) := ⟨_, ⟨rfl⟩⟩
          rw [← hzn.out] at hvz
          subst hvz
          have HS6 := Keep.mk hS6
          clear q1 q2 q3 q4 q5 q6 hzk hbw5 hS6
          refine wpAnyH_ready (rs := [13]) (by kernel_rfl) (by simp) ?_
          refine AllReadyH.cons (o := ⟨none, Op.store 36 (Operand.tmp 64) (Operand.tmp 63), 0, _, _, none⟩) rfl (fun K hK => ?_) AllReadyH.nil
          rw [if_pos (by rfl)]
          go_simp
          refine hK.out _ _ HS6.out fun _ => ?_
          clear hK
          refine wpAnyH_done (by kernel_rfl) ?_ _
          have hbt6 : w5.setCell ⟨wb, 0, none⟩ (.slice (some ⟨zg, 0, none⟩) zn zc) = w5.setCell ⟨wb, 0, none⟩ (.slice (some ⟨zg, 0, none⟩) zn zc) := rfl
          clear hbt6
          have hLn := HLn.out
          generalize retag tag4 w4.heap.size (fun k => if Value.ownBlock (.slice (some ⟨zg, 0, none⟩) zn zc) = some k then 2 + 0 else if v'.ownBlock = some k then 0 else 6) = tag6 at *
          obtain ⟨w6, hw6⟩ : ∃ w6, Keep (w6 = w5.setCell ⟨wb, 0, none⟩ (.slice (some ⟨zg, 0, none⟩) zn zc)) := ⟨_, ⟨rfl⟩⟩
          rw [← hw6.out] at hLn HS6
          rw [← hw6.out]
          have dX : w6.cell? ⟨wr.heap.size, 1, none⟩ = some (.int .u64 (X t : Int)) := HS6.out.2 1 _ rfl
          have dK : w6.cell? ⟨wr.heap.size, 0, none⟩ = some (.int .i64 (Kd t)) := HS6.out.2 0 _ rfl
          have dW : w6.cell? ⟨wb, 0, none⟩ = some (.slice (some ⟨zg, 0, none⟩) zn zc) := by rw [hLn.bw.cell]; rfl
          have HLn6 := Keep.mk hLn
          have HXn := Keep.mk (HR1.out.num t hlt)
          clear hLn cU5 fU5 cU hw6 HLn hHeld hHeld5 HS4 HBx HL4 hD0
          have q36 : ∀ (w : World) (a : Option Addr) (n c n' c' : Nat), (binOp .eql 36 (.slice a n c) (.slice none n' c')).run Try.prog w = .ok (.bool a.isNone) w := fun w a n c n' c' => Lib.run_eql_slice_nil w _ _ a n c n' c' Try.underlying36
          go_wp2_with fail
          go_quiet (first | (go_at_call 13; refine Calls.quiet_of_same (size_any (X t) _ HXn.out)) | (go_at_call 14; refine Calls.quiet_of_same (rsize_any (X t) _ HXn.out)))
          obtain ⟨w7, hw7⟩ : ∃ w7, Keep (w7 = w6.drewN nq) := ⟨_, ⟨rfl⟩⟩
          rw [← hw7.out]
          have dK7 : w7.cell? ⟨wr.heap.size, 0, none⟩ = some (.int .i64 (Kd t)) := by rw [hw7.out]; exact dK
          have hL7 := HLn6.out.later (w' := w7) (by rw [hw7.out]; exact below_drewN w6 nq)
          have hLl7 : Keep ((updN L 0 (L 0 ++ frm (Kd t) (X t) (rows t)) 0).length ≤ tot rows (t + 1) ∧ (updN L 0 (L 0 ++ frm (Kd t) (X t) (rows t)) 1).length ≤ tot rows (t + 1)) := ⟨by
            have hf := frm_len (Kd t) (X t) (rows t)
            have h0 := hLl.out
            rw [HTt.out]
            constructor <;> (simp only [updN]; split <;> (try simp only [List.length_append]) <;> omega)⟩
          generalize retag tag6 w6.heap.size (fun _ => 6) = tag7 at *
          generalize updN Vv 0 v' = Vv7 at *
          generalize updN U 0 (.slice (some ⟨zg, 0, none⟩) zn zc) = U7 at *
          generalize updN L 0 (L 0 ++ frm (Kd t) (X t) (rows t)) = L7 at *
          have HL7 := Keep.mk hL7
          clear hL7 hw7 dX dK dW HLn6 HLs hLl HS6 hzn
          by_cases h7 : Kd t = 7
          · rw [h7] at dK7
            clear h7
            go_wp2
            go_loopw [11] (fun i wi => ∃ (n : Nat) (tagi : Nat → Nat), n ≤ 3 ∧ i = .int .i64 (n : Int) ∧ Lays w1 ob wb kb P Vv7 U7 L7 tagi wi) (fun i _ => 3 - (intOf i).toNat)
            case atStart => exact ⟨0, _, by omega, rfl, HL7.out⟩
            case round =>
              obtain ⟨n, tagi, hn, rfl, hLi⟩ := hrel
              clear HL7 dK7
              by_cases hn3 : n < 3
              · have hn3' : (n : Int) < 3 := by omega
                have HLi := Keep.mk hLi
                have cO : wr.cell? ⟨ob, 0, none⟩ = some (ptr (P 0)) := by rw [hLi.bo.cell]; rfl
                have Hbl : Keep ((L7 0).length + 60 ≤ 140737488355328) := ⟨by have := hLl7.out; have := HTm.out; omega⟩
                clear hLi
                go_wp2_with fail
                refine (odone_any (P 0) (Vv7 0) (L7 0) wr (HLi.out.out 0 (by decide)) (by have := Hbl.out; omega)).mono ?_
                rintro e w8 ⟨rfl, hw8⟩
                have HOwn := Keep.mk (own_done wr (L7 0) (by have := Hbl.out; omega))
                rw [← hw8] at HOwn
                have hbel : Below wr.heap.size wr w8 := by rw [hw8]; exact below_new _ _
                have HL8 := Keep.mk (HLi.out.later hbel)
                have Htg : Keep (retag tagi wr.heap.size (fun _ => 6) wr.heap.size = 6) := ⟨retag_ge (Nat.le_refl _)⟩
                generalize retag tagi wr.heap.size (fun _ => 6) = tag8 at *
                obtain ⟨zl, hzl⟩ : ∃ zl, Keep (zl = L7 0) := ⟨_, ⟨rfl⟩⟩
                obtain ⟨st, hst⟩ : ∃ st, Keep (st = strOfNums zl) := ⟨_, ⟨rfl⟩⟩
                rw [← hzl.out] at HOwn Hbl
                rw [← hzl.out]
                have cU8 : w8.cell? ⟨wb, 0, none⟩ = some (U7 0) := by rw [HL8.out.bw.cell]; rfl
                have hcv1 : ∀ n, (convert 36 9 (.slice (some ⟨wr.heap.size, 0, none⟩) zl.length zl.length)).run Try.prog (w8.drewN n) = .ok (.string st) (w8.drewN n) := fun n => by rw [hst.out]; exact conv_row _ zl _ (HOwn.out.drewN n).row
                have hcv2 : ∀ n, (convert 36 9 (U7 0)).run Try.prog (w8.drewN n) = .ok (.string st) (w8.drewN n) := fun n => by rw [hst.out, hzl.out]; exact conv_row _ _ _ ((HL8.out.row 0 (by decide)).drewN n).row
                clear hw8 hbel HLi cO
                go_wp2_with fail
                go_quiet (fail)
                obtain ⟨w9, hw9⟩ : ∃ w9, Keep (w9 = w8.drewN nq) := ⟨_, ⟨rfl⟩⟩
                rw [← hw9.out]
                have hb9 : Below w8.heap.size w8 w9 := by rw [hw9.out]; exact below_drewN w8 nq
                have HO9 : Keep (Own w9 (.slice (some ⟨wr.heap.size, 0, none⟩) zl.length zl.length) zl) := ⟨by rw [hw9.out]; exact HOwn.out.drewN nq⟩
                have hlt8 := HOwn.out.lt wr.heap.size rfl
                have HL9 := Keep.mk (HL8.out.later hb9)
                have Htg9 : Keep (retag tag8 w8.heap.size (fun _ => 6) wr.heap.size = 6) := ⟨by rw [retag_lt hlt8]; exact Htg.out⟩
                generalize retag tag8 w8.heap.size (fun _ => 6) = tag9 at *
                clear hw9 hb9 hcv1 hcv2 cU8 HOwn HL8 hlt8 Htg
                go_wp2_with fail
                refine (bookAdd HL9.out.bk (fun h => by have := HL9.out.tb; omega) HO9.out.tail (fun k hk h => by
                  simp [Value.ownBlock] at hk
                  have := Htg9.out
                  rw [hk] at this
                  omega) Hbl.out).mono ?_
                intro e w10 hp
                obtain ⟨rfl, hLa⟩ := HL9.out.added (fun k hk => ⟨by simp [Value.ownBlock] at hk; rw [← hk]; exact Htg9.out, HO9.out.lt k hk⟩) hp
                have HLa := Keep.mk hLa
                clear hLa hp HO9 HL9
                go_wp2
                go_roundw
                case rel => exact ⟨n + 1, _, by omega, by go_num, HLa.out⟩
                case measure => simp only [intOf]; omega
              · obtain rfl : n = 3 := by omega
                have HLz := Keep.mk hLi
                clear hLi
                obtain ⟨wz, rfl⟩ : ∃ wz, wz = wr := ⟨_, rfl⟩
                obtain ⟨tagz, rfl⟩ : ∃ tagz, tagz = tagi := ⟨_, rfl⟩
                have c0 : wz.cell? ⟨ob, 0, none⟩ = some (ptr (P 0)) := by rw [HLz.out.bo.cell]; rfl
                have c1 : wz.cell? ⟨ob, 1, none⟩ = some (ptr (P 1)) := by rw [HLz.out.bo.cell]; rfl
                have u0 : wz.cell? ⟨wb, 0, none⟩ = some (U7 0) := by rw [HLz.out.bw.cell]; rfl
                have u1 : wz.cell? ⟨wb, 1, none⟩ = some (U7 1) := by rw [HLz.out.bw.cell]; rfl
                obtain ⟨ua0, uc0, hu0⟩ := row_form (HLz.out.row 0 (by decide)).row
                obtain ⟨ua1, uc1, hu1⟩ := row_form (HLz.out.row 1 (by decide)).row
                rw [hu0] at u0
                rw [hu1] at u1
                go_wp2_with fail
                go_quiet (first | (go_at_call 17; refine Calls.quiet_of_same (olen_any (P 0) _ _ _ ((HLz.out.out 0 (by decide)).drewN _))) | (go_at_call 17; refine Calls.quiet_of_same (olen_any (P 1) _ _ _ ((HLz.out.out 1 (by decide)).drewN _))) | (go_at_call 18; refine Calls.quiet_of_same (bookStays (HLz.out.bk.drewN _))))
                have HLe := Keep.mk (HLz.out.later (below_drewN wz nq))
                clear c0 c1 u0 u1
                go_wp2
                go_roundw
                case rel => exact ⟨t + 1, Vv7, U7, L7, _, by omega, by go_num, hLl7, HLe.out⟩
                case measure => simp only [intOf]; omega
          · have HLz := Keep.mk HL7.out
            clear HL7
            obtain ⟨wz, rfl⟩ : ∃ wz, wz = w7 := ⟨_, rfl⟩
            obtain ⟨tagz, rfl⟩ : ∃ tagz, tagz = tag7 := ⟨_, rfl⟩
            have c0 : wz.cell? ⟨ob, 0, none⟩ = some (ptr (P 0)) := by rw [HLz.out.bo.cell]; rfl
            have c1 : wz.cell? ⟨ob, 1, none⟩ = some (ptr (P 1)) := by rw [HLz.out.bo.cell]; rfl
            have u0 : wz.cell? ⟨wb, 0, none⟩ = some (U7 0) := by rw [HLz.out.bw.cell]; rfl
            have u1 : wz.cell? ⟨wb, 1, none⟩ = some (U7 1) := by rw [HLz.out.bw.cell]; rfl
            obtain ⟨ua0, uc0, hu0⟩ := row_form (HLz.out.row 0 (by decide)).row
            obtain ⟨ua1, uc1, hu1⟩ := row_form (HLz.out.row 1 (by decide)).row
            rw [hu0] at u0
            rw [hu1] at u1
            go_wp2_with fail
            go_quiet (first | (go_at_call 17; refine Calls.quiet_of_same (olen_any (P 0) _ _ _ ((HLz.out.out 0 (by decide)).drewN _))) | (go_at_call 17; refine Calls.quiet_of_same (olen_any (P 1) _ _ _ ((HLz.out.out 1 (by decide)).drewN _))) | (go_at_call 18; refine Calls.quiet_of_same (bookStays (HLz.out.bk.drewN _))))
            have HLe := Keep.mk (HLz.out.later (below_drewN wz nq))
            clear c0 c1 u0 u1
            go_wp2
            go_roundw
            case rel => exact ⟨t + 1, Vv7, U7, L7, _, by omega, by go_num, hLl7, HLe.out⟩
            case measure => simp only [intOf]; omega
      · obtain rfl : t = m := by omega
        have hlt' : ¬ ((t : Int) < (t : Int)) := by omega
        have HLs := Keep.mk hLs
        have Hb0 : Keep ((L 0).length ≤ 140737488355328) := ⟨by have := hLl.out; have := HT.out; omega⟩
        have Hb1 : Keep ((L 1).length ≤ 140737488355328) := ⟨by have := hLl.out; have := HT.out; omega⟩
        obtain ⟨w4, rfl⟩ : ∃ w4, w4 = wr := ⟨_, rfl⟩
        have HLx : Keep (∀ wx, Below w4.heap.size w4 wx → Lays w1 ob wb kb P Vv U L (retag tag w4.heap.size fun _ => 6) wx) := ⟨fun wx hx => HLs.out.later hx⟩
        have HC : Keep (∀ wx, Below w4.heap.size w4 wx → wx.cell? ⟨ob, 0, none⟩ = some (ptr (P 0)) ∧ wx.cell? ⟨ob, 1, none⟩ = some (ptr (P 1)) ∧ wx.cell? ⟨wb, 0, none⟩ = some (U 0) ∧ wx.cell? ⟨wb, 1, none⟩ = some (U 1)) := ⟨fun wx hx => by
          have h := HLx.out wx hx
          exact ⟨by rw [h.bo.cell]; rfl, by rw [h.bo.cell]; rfl, by rw [h.bw.cell]; rfl, by rw [h.bw.cell]; rfl⟩⟩
        obtain ⟨st0, hst0⟩ : ∃ st, Keep (st = strOfNums (L 0)) := ⟨_, ⟨rfl⟩⟩
        obtain ⟨st1, hst1⟩ : ∃ st, Keep (st = strOfNums (L 1)) := ⟨_, ⟨rfl⟩⟩
        have Hc0 : Keep (∀ wx, Below w4.heap.size w4 wx → (convert 36 9 (U 0)).run Try.prog wx = .ok (.string st0) wx) := ⟨fun wx hx => by rw [hst0.out]; exact conv_row _ _ _ ((HLx.out wx hx).row 0 (by decide)).row⟩
        have Hc1 : Keep (∀ wx, Below w4.heap.size w4 wx → (convert 36 9 (U 1)).run Try.prog wx = .ok (.string st1) wx) := ⟨fun wx hx => by rw [hst1.out]; exact conv_row _ _ _ ((HLx.out wx hx).row 1 (by decide)).row⟩
        have hD0 : Below w4.heap.size w4 w4.drew := (Below.refl _ _).drew
        clear hLs hLl
        go_wp2_with fail
        refine wp_region_held_drew (S := fun w' => Below w4.heap.size w4 w') (by kernel_rfl) hD0 (fun hHeld => ?_)
        refine wpAnyH_take (i := 0) (oi := ⟨some 128, Op.move (Operand.tmp 5), 35, _, _, none⟩) (v := .slice (some ⟨ob, 0, none⟩) 2 2) rfl (by kernel_rfl) (by kernel_rfl) (by kernel_rfl) (fun _ _ _ h => h) (Or.inl ⟨by rfl, fun w hS => by go_simp⟩) hHeld ?_
        simp only [Act.put, List.setIfInBounds_toArray, List.set_cons_zero, List.set_cons_succ]
        refine wpAnyH_take (i := 1) (oi := ⟨some 129, Op.indexAddr 35 (Operand.tmp 128) (Operand.const (Value.int IntKind.i64 0)), 0, _, _, none⟩) (v := .pointer (some ⟨ob, 0, none⟩)) rfl (by kernel_rfl) (by kernel_rfl) (by kernel_rfl) (fun _ _ _ h => h) (Or.inl ⟨by rfl, fun w hS => by go_simp⟩) hHeld ?_
        simp only [Act.put, List.setIfInBounds_toArray, List.set_cons_zero, List.set_cons_succ]
        refine wpAnyH_take (i := 2) (oi := ⟨some 130, Op.load 33 (Operand.tmp 129), 33, _, _, none⟩) (v := ptr (P 0)) rfl (by kernel_rfl) (by kernel_rfl) (by kernel_rfl) (fun _ _ _ h => h) (Or.inl ⟨by rfl, fun w hS => by (have hcx := (HC.out _ hS).1; clear hS; go_simp)⟩) hHeld ?_
        simp only [Act.put, List.setIfInBounds_toArray, List.set_cons_zero, List.set_cons_succ]
        refine wpAnyH_take (i := 5) (oi := ⟨some 133, Op.move (Operand.tmp 6), 37, _, _, none⟩) (v := .slice (some ⟨wb, 0, none⟩) 2 2) rfl (by kernel_rfl) (by kernel_rfl) (by kernel_rfl) (fun _ _ _ h => h) (Or.inl ⟨by rfl, fun w hS => by go_simp⟩) hHeld ?_
        simp only [Act.put, List.setIfInBounds_toArray, List.set_cons_zero, List.set_cons_succ]
        refine wpAnyH_take (i := 6) (oi := ⟨some 134, Op.indexAddr 37 (Operand.tmp 133) (Operand.const (Value.int IntKind.i64 0)), 0, _, _, none⟩) (v := .pointer (some ⟨wb, 0, none⟩)) rfl (by kernel_rfl) (by kernel_rfl) (by kernel_rfl) (fun _ _ _ h => h) (Or.inl ⟨by rfl, fun w hS => by go_simp⟩) hHeld ?_
        simp only [Act.put, List.setIfInBounds_toArray, List.set_cons_zero, List.set_cons_succ]
        refine wpAnyH_take (i := 7) (oi := ⟨some 135, Op.load 36 (Operand.tmp 134), 36, _, _, none⟩) (v := U 0) rfl (by kernel_rfl) (by kernel_rfl) (by kernel_rfl) (fun _ _ _ h => h) (Or.inl ⟨by rfl, fun w hS => by (have hcx := (HC.out _ hS).2.2.1; clear hS; go_simp)⟩) hHeld ?_
        simp only [Act.put, List.setIfInBounds_toArray, List.set_cons_zero, List.set_cons_succ]
        refine wpAnyH_take (i := 8) (oi := ⟨some 136, Op.convert 36 9 (Operand.tmp 135), 9, _, _, none⟩) (v := .string st0) rfl (by kernel_rfl) (by kernel_rfl) (by kernel_rfl) (fun _ _ _ h => h) (Or.inl ⟨by rfl, fun w hS => by (have hcx := Hc0.out _ hS; go_simp)⟩) hHeld ?_
        simp only [Act.put, List.setIfInBounds_toArray, List.set_cons_zero, List.set_cons_succ]
        refine wpAnyH_ready (rs := [3]) (by kernel_rfl) (by simp) ?_
        refine AllReadyH.cons (o := ⟨some 131, Op.call { callee := Callee.value (Operand.func 15), args := #[Operand.tmp 130], argTypes := #[33] }, 36, _, _, none⟩) rfl (fun K hK => ?_) AllReadyH.nil
        rw [if_pos (by rfl)]
        refine wp_callF 15 _ _ rfl Try.enter15 #[ptr (P 0)] (by simp [Act.eval]) (fun vz wz => (∃ ad n c, vz = .slice ad n c) ∧ (convert 36 9 vz).run Try.prog wz = .ok (.string st0) wz ∧ Below w4.heap.size w4 wz) ?_ ?_
        · refine (odone_any (P 0) (Vv 0) (L 0) _ ((HLx.out _ hD0).out 0 (by decide)) Hb0.out).mono ?_
          rintro e wz ⟨rfl, hz⟩
          refine ⟨_, rfl, ⟨_, _, _, rfl⟩, ?_, ?_⟩
          · rw [hz, hst0.out]; exact conv_row _ (L 0) _ (own_done _ (L 0) Hb0.out).row
          · rw [hz]; exact hD0.trans ((below_new _ _).mono hD0.size)
        rintro vz w5 ⟨⟨zad0, zn0, zc0, rfl⟩, hcz0, hb5⟩
        refine hK.out _ _ hb5 fun hHeld5 => ?_
        clear hK
        simp only [Act.put, List.setIfInBounds_toArray, List.set_cons_zero, List.set_cons_succ]
        refine wpAnyH_ready (rs := [4]) (by kernel_rfl) (by simp) ?_
        refine AllReadyH.cons (o := ⟨some 132, Op.convert 36 9 (Operand.tmp 131), 9, _, _, none⟩) rfl (fun K hK => ?_) AllReadyH.nil
        rw [if_pos (by rfl)]
        refine wp_val (.string st0) (by go_simp) ?_
        refine hK.out _ _ hb5 fun hHeld6 => ?_
        clear hK
        simp only [Act.put, List.setIfInBounds_toArray, List.set_cons_zero, List.set_cons_succ]
        refine wpAnyH_take (i := 9) (oi := ⟨some 137, Op.binOp BinOp.eql 9 (Operand.tmp 132) (Operand.tmp 136) 9, 4, _, _, none⟩) (v := .bool true) rfl (by kernel_rfl) (by kernel_rfl) (by kernel_rfl) (fun _ _ _ h => h) (Or.inl ⟨by rfl, fun w hS => by go_simp⟩) hHeld6 ?_
        simp only [Act.put, List.setIfInBounds_toArray, List.set_cons_zero, List.set_cons_succ]
        refine wpAnyH_take (i := 10) (oi := ⟨some 138, Op.move (Operand.tmp 137), 4, _, _, none⟩) (v := .bool true) rfl (by kernel_rfl) (by kernel_rfl) (by kernel_rfl) (fun _ _ _ h => h) (Or.inl ⟨by rfl, fun w hS => by go_simp⟩) hHeld6 ?_
        simp only [Act.put, List.setIfInBounds_toArray, List.set_cons_zero, List.set_cons_succ]
        refine wpAnyH_take (i := 11) (oi := ⟨some 139, Op.move (Operand.tmp 5), 35, _, _, some (10, true)⟩) (v := .slice (some ⟨ob, 0, none⟩) 2 2) rfl (by kernel_rfl) (by kernel_rfl) (by kernel_rfl) (fun _ _ _ h => h) (Or.inl ⟨by rfl, fun w hS => by go_simp⟩) hHeld6 ?_
        simp only [Act.put, List.setIfInBounds_toArray, List.set_cons_zero, List.set_cons_succ]
        refine wpAnyH_take (i := 12) (oi := ⟨some 140, Op.indexAddr 35 (Operand.tmp 139) (Operand.const (Value.int IntKind.i64 1)), 0, _, _, some (10, true)⟩) (v := .pointer (some ⟨ob, 1, none⟩)) rfl (by kernel_rfl) (by kernel_rfl) (by kernel_rfl) (fun _ _ _ h => h) (Or.inl ⟨by rfl, fun w hS => by go_simp⟩) hHeld6 ?_
        simp only [Act.put, List.setIfInBounds_toArray, List.set_cons_zero, List.set_cons_succ]
        refine wpAnyH_take (i := 13) (oi := ⟨some 141, Op.load 33 (Operand.tmp 140), 33, _, _, some (10, true)⟩) (v := ptr (P 1)) rfl (by kernel_rfl) (by kernel_rfl) (by kernel_rfl) (fun _ _ _ h => h) (Or.inl ⟨by rfl, fun w hS => by (have hcx := (HC.out _ hS).2.1; clear hS; go_simp)⟩) hHeld6 ?_
        simp only [Act.put, List.setIfInBounds_toArray, List.set_cons_zero, List.set_cons_succ]
        refine wpAnyH_take (i := 16) (oi := ⟨some 144, Op.move (Operand.tmp 6), 37, _, _, some (10, true)⟩) (v := .slice (some ⟨wb, 0, none⟩) 2 2) rfl (by kernel_rfl) (by kernel_rfl) (by kernel_rfl) (fun _ _ _ h => h) (Or.inl ⟨by rfl, fun w hS => by go_simp⟩) hHeld6 ?_
        simp only [Act.put, List.setIfInBounds_toArray, List.set_cons_zero, List.set_cons_succ]
        refine wpAnyH_take (i := 17) (oi := ⟨some 145, Op.indexAddr 37 (Operand.tmp 144) (Operand.const (Value.int IntKind.i64 1)), 0, _, _, some (10, true)⟩) (v := .pointer (some ⟨wb, 1, none⟩)) rfl (by kernel_rfl) (by kernel_rfl) (by kernel_rfl) (fun _ _ _ h => h) (Or.inl ⟨by rfl, fun w hS => by go_simp⟩) hHeld6 ?_
        simp only [Act.put, List.setIfInBounds_toArray, List.set_cons_zero, List.set_cons_succ]
        refine wpAnyH_take (i := 18) (oi := ⟨some 146, Op.load 36 (Operand.tmp 145), 36, _, _, some (10, true)⟩) (v := U 1) rfl (by kernel_rfl) (by kernel_rfl) (by kernel_rfl) (fun _ _ _ h => h) (Or.inl ⟨by rfl, fun w hS => by (have hcx := (HC.out _ hS).2.2.2; clear hS; go_simp)⟩) hHeld6 ?_
        simp only [Act.put, List.setIfInBounds_toArray, List.set_cons_zero, List.set_cons_succ]
        refine wpAnyH_take (i := 19) (oi := ⟨some 147, Op.convert 36 9 (Operand.tmp 146), 9, _, _, some (10, true)⟩) (v := .string st1) rfl (by kernel_rfl) (by kernel_rfl) (by kernel_rfl) (fun _ _ _ h => h) (Or.inl ⟨by rfl, fun w hS => by (have hcx := Hc1.out _ hS; go_simp)⟩) hHeld6 ?_
        simp only [Act.put, List.setIfInBounds_toArray, List.set_cons_zero, List.set_cons_succ]
        refine wpAnyH_ready (rs := [14]) (by kernel_rfl) (by simp) ?_
        refine AllReadyH.cons (o := ⟨some 142, Op.call { callee := Callee.value (Operand.func 15), args := #[Operand.tmp 141], argTypes := #[33] }, 36, _, _, some (10, true)⟩) rfl (fun K hK => ?_) AllReadyH.nil
        rw [if_pos (by rfl)]
        refine wp_callF 15 _ _ rfl Try.enter15 #[ptr (P 1)] (by simp [Act.eval]) (fun vz wz => (∃ ad n c, vz = .slice ad n c) ∧ (convert 36 9 vz).run Try.prog wz = .ok (.string st1) wz ∧ Below w4.heap.size w4 wz) ?_ ?_
        · refine (odone_any (P 1) (Vv 1) (L 1) _ ((HLx.out _ hb5).out 1 (by decide)) Hb1.out).mono ?_
          rintro e wz ⟨rfl, hz⟩
          refine ⟨_, rfl, ⟨_, _, _, rfl⟩, ?_, ?_⟩
          · rw [hz, hst1.out]; exact conv_row _ (L 1) _ (own_done _ (L 1) Hb1.out).row
          · rw [hz]; exact hb5.trans ((below_new _ _).mono hb5.size)
        rintro vz w6 ⟨⟨zad1, zn1, zc1, rfl⟩, hcz1, hb6⟩
        refine hK.out _ _ hb6 fun hHeld7 => ?_
        clear hK
        simp only [Act.put, List.setIfInBounds_toArray, List.set_cons_zero, List.set_cons_succ]
        refine wpAnyH_ready (rs := [15]) (by kernel_rfl) (by simp) ?_
        refine AllReadyH.cons (o := ⟨some 143, Op.convert 36 9 (Operand.tmp 142), 9, _, _, some (10, true)⟩) rfl (fun K hK => ?_) AllReadyH.nil
        rw [if_pos (by rfl)]
        refine wp_val (.string st1) (by go_simp) ?_
        refine hK.out _ _ hb6 fun hHeld8 => ?_
        clear hK
        simp only [Act.put, List.setIfInBounds_toArray, List.set_cons_zero, List.set_cons_succ]
        refine wpAnyH_take (i := 20) (oi := ⟨some 148, Op.binOp BinOp.eql 9 (Operand.tmp 143) (Operand.tmp 147) 9, 4, _, _, some (10, true)⟩) (v := .bool true) rfl (by kernel_rfl) (by kernel_rfl) (by kernel_rfl) (fun _ _ _ h => h) (Or.inl ⟨by rfl, fun w hS => by go_simp⟩) hHeld8 ?_
        simp only [Act.put, List.setIfInBounds_toArray, List.set_cons_zero, List.set_cons_succ]
        refine wpAnyH_take (i := 21) (oi := ⟨some 149, Op.pick (Operand.tmp 138) (Operand.tmp 148) (Operand.const (Value.bool false)), 4, _, _, none⟩) (v := .bool true) rfl (by kernel_rfl) (by kernel_rfl) (by kernel_rfl) (fun _ _ _ h => h) (Or.inl ⟨by rfl, fun w hS => by go_simp⟩) hHeld8 ?_
        simp only [Act.put, List.setIfInBounds_toArray, List.set_cons_zero, List.set_cons_succ]
        refine wpAnyH_take (i := 22) (oi := ⟨some 150, Op.move (Operand.tmp 149), 4, _, _, none⟩) (v := .bool true) rfl (by kernel_rfl) (by kernel_rfl) (by kernel_rfl) (fun _ _ _ h => h) (Or.inl ⟨by rfl, fun w hS => by go_simp⟩) hHeld8 ?_
        simp only [Act.put, List.setIfInBounds_toArray, List.set_cons_zero, List.set_cons_succ]
        refine wpAnyH_take (i := 23) (oi := ⟨some 151, Op.move (Operand.tmp 7), 38, _, _, some (22, true)⟩) (v := ptr kb) rfl (by kernel_rfl) (by kernel_rfl) (by kernel_rfl) (fun _ _ _ h => h) (Or.inl ⟨by rfl, fun w hS => by go_simp⟩) hHeld8 ?_
        simp only [Act.put, List.setIfInBounds_toArray, List.set_cons_zero, List.set_cons_succ]
        refine wpAnyH_ready (rs := [24]) (by kernel_rfl) (by simp) ?_
        refine AllReadyH.cons (o := ⟨some 152, Op.call { callee := Callee.value (Operand.func 18), args := #[Operand.tmp 151], argTypes := #[38] }, 4, _, _, some (22, true)⟩) rfl (fun K hK => ?_) AllReadyH.nil
        rw [if_pos (by rfl)]
        refine wp_callF 18 _ _ rfl Try.enter18 #[ptr kb] (by simp [Act.eval]) (fun vz wz => vz = .bool true ∧ wz = w6) ?_ ?_
        · refine (bookStays (HLx.out _ hb6).bk).mono ?_
          rintro e wz ⟨rfl, hz⟩
          exact ⟨_, rfl, rfl, hz⟩
        rintro vz w7 ⟨rfl, hw7⟩
        rw [hw7]
        clear hw7
        refine hK.out _ _ hb6 fun hHeld9 => ?_
        clear hK
        simp only [Act.put, List.setIfInBounds_toArray, List.set_cons_zero, List.set_cons_succ]
        refine wpAnyH_take (i := 25) (oi := ⟨some 153, Op.pick (Operand.tmp 150) (Operand.tmp 152) (Operand.const (Value.bool false)), 4, _, _, none⟩) (v := .bool true) rfl (by kernel_rfl) (by kernel_rfl) (by kernel_rfl) (fun _ _ _ h => h) (Or.inl ⟨by rfl, fun w hS => by go_simp⟩) hHeld9 ?_
        simp only [Act.put, List.setIfInBounds_toArray, List.set_cons_zero, List.set_cons_succ]
        refine wpAnyH_take (i := 26) (oi := ⟨some 4, Op.assign (Operand.tmp 153), 4, _, _, none⟩) (v := .bool true) rfl (by kernel_rfl) (by kernel_rfl) (by kernel_rfl) (fun _ _ _ h => h) (Or.inl ⟨by rfl, fun w hS => by go_simp⟩) hHeld9 ?_
        simp only [Act.put, List.setIfInBounds_toArray, List.set_cons_zero, List.set_cons_succ]
        refine wpAnyH_done (by kernel_rfl) ?_ _
        have HB6 := Keep.mk (HB1.out.trans (((HLx.out _ hb6).below).mono HB1.out.size))
        clear hb5 hb6 hcz0 hcz1
        go_wp2
        go_ret
        exact ⟨rfl, HB6.out⟩
end Go.Proofs.Ytanmbbckkfkhpaa
