import Derived.Test.YtollbkibocdbmaaBooks
import Derived.Deep.MidRow
import Derived.Deep.RegionHeld3
namespace Go.Proofs.Ytollbkibocdbmaa
open Go.RowKit

theorem Try.size40 : (Try.prog.info? 40).map (·.size) = some 3 := by kernel_rfl
theorem Try.info33 : (Try.prog.info? 33).map (fun i => (i.zero, i.size, i.bytes)) = some (some (.pointer none), 1, 8) := by kernel_rfl
theorem Try.new40 (w : World) : (Instr.alloc 40 true (.tuple #[])).run Try.prog w = .ok (.pointer (some ⟨w.heap.size, 0, none⟩)) (w.alloc (.cells #[.int .i64 0, .int .i64 0, .slice none 0 0] 40)) := by kernel_rfl

theorem books_form {lv : Value} {N : Nat} {p g : Nat → Nat} {V : Nat → Value} {b : Nat → List Int} {tot : Nat} {w0 w : World} (h : BooksAt lv N p g V b tot w0 w) : ∃ a c, lv = .slice (some ⟨a, 0, none⟩) N c := by
  rcases h.list.2 with ⟨_, h0⟩ | ⟨j, cap, cur, rfl, _⟩
  · have := h.pos; omega
  · exact ⟨_, _, rfl⟩
theorem belowA (w : World) : Below w.heap.size w ((((w.alloc (.cells (wordsA 8 beginF) 60)).alloc (.cells (digA beginF (fun _ => 0) 0) 67)).alloc (.cells #[ptr (w.heap.size + 1), .slice none 0 0] 37)).alloc (.cells #[.pointer (some ⟨w.heap.size + 1 + 1, 0, none⟩)] 33)) :=
  ((((Below.refl _ _).alloc (Nat.le_refl _) _).alloc (by simp) _).alloc (by simp; omega) _).alloc (by simp; omega) _
theorem book_new (base : Nat) (w : World) : BookAt base (w.heap.size + 1 + 1) (w.heap.size + 1) (.slice none 0 0) [] ((((w.alloc (.cells (wordsA 8 beginF) 60)).alloc (.cells (digA beginF (fun _ => 0) 0) 67)).alloc (.cells #[ptr (w.heap.size + 1), .slice none 0 0] 37)).alloc (.cells #[.pointer (some ⟨w.heap.size + 1 + 1, 0, none⟩)] 33)) where
  book := by
    have h := (Blk.new ((w.alloc (.cells (wordsA 8 beginF) 60)).alloc (.cells (digA beginF (fun _ => 0) 0) 67)) 37 #[ptr (w.heap.size + 1), .slice none 0 0]).alloc (.cells #[.pointer (some ⟨w.heap.size + 1 + 1, 0, none⟩)] 33)
    simpa only [World.size_alloc] using h
  dig := by
    have h := ((Blk.new (w.alloc (.cells (wordsA 8 beginF) 60)) 67 (digA beginF (fun _ => 0) 0)).alloc (.cells #[ptr (w.heap.size + 1), .slice none 0 0] 37)).alloc (.cells #[.pointer (some ⟨w.heap.size + 1 + 1, 0, none⟩)] 33)
    simp only [World.size_alloc] at h
    exact h
  row := ⟨rfl, .inl ⟨rfl, rfl⟩⟩
theorem books_new (w : World) : BooksAt (.slice (some ⟨w.heap.size + 1 + 1 + 1, 0, none⟩) 1 1) 1 (fun _ => w.heap.size + 1 + 1) (fun _ => w.heap.size + 1) (fun _ => .slice none 0 0) (fun _ => []) 0 w
    ((((w.alloc (.cells (wordsA 8 beginF) 60)).alloc (.cells (digA beginF (fun _ => 0) 0) 67)).alloc (.cells #[ptr (w.heap.size + 1), .slice none 0 0] 37)).alloc (.cells #[.pointer (some ⟨w.heap.size + 1 + 1, 0, none⟩)] 33)) where
  list := by
    have h := Blk.new (((w.alloc (.cells (wordsA 8 beginF) 60)).alloc (.cells (digA beginF (fun _ => 0) 0) 67)).alloc (.cells #[ptr (w.heap.size + 1), .slice none 0 0] 37)) 33 #[.pointer (some ⟨w.heap.size + 1 + 1, 0, none⟩)]
    simp only [World.size_alloc] at h
    exact ⟨rfl, .inr ⟨_, 1, _, rfl, by omega, h, Nat.le_refl _, by unfold maxLen; omega, rfl, rfl⟩⟩
  book i hi := book_new _ w
  low i hi := ⟨by omega, by omega⟩
  injp i j hi hj _ := by omega
  injg i j hi hj _ := by omega
  len i hi := Nat.le_refl _
  below := belowA w
  pos := by omega

theorem wpList_app33 {ops : Array Oper} {rest : List Oper} {o : Oper} {a : Act} {w : World} {Q : Exit → Act → World → Prop} (hgd : o.guard = none) (s x : Operand)
    (ho : o.op = .call { callee := .builtin .append, args := #[s, x], argTypes := #[38, 38] }) (base : Nat) (v : Value) (n : Nat) (xs : List Value) (h P : Nat)
    (hs : a.eval s = v) (hx : a.eval x = .slice (some ⟨h, 0, none⟩) 1 1) (hown : w.ownsRow base 33 1 v n xs) (hc : w.cell? ⟨h, 0, none⟩ = some (ptr P)) (hb : n ≤ 8796093022208) (hbase : base ≤ w.heap.size)
    (hk : ∀ v' w', w'.ownsRow base 33 1 v' (n + 1) (xs ++ [ptr P]) → w.grownBy w' v.ownBlock → wpList Try.prog ops Q rest (a.put o.dst v') w') : wpList Try.prog ops Q (o :: rest) a w := by
  obtain ⟨i, hi, hzz⟩ := Option.map_eq_some_iff.1 Try.info33
  simp only [Prod.mk.injEq] at hzz
  obtain ⟨hz, hsz, hby⟩ := hzz
  refine wpList_append_own w hgd s x 38 ho base 33 i (.pointer none) 1 8 Try.underlying38 hi hz hsz hby rfl (by omega) v n xs hs hown ⟨h, 0, none⟩ 1 1 [ptr P] hx rfl
    (fun j u hu => by
      cases j with
      | zero => simp at hu; subst hu; exact hc
      | succ j => simp at hu)
    (fun u hu => by simp at hu; subst hu; rfl) (by unfold maxLen; omega) (by omega) hbase ?_
  intro v' w' h1 h2 _
  exact hk v' w' h1 h2

theorem len_sha (g : Nat) (b : List Int) (w : World) (hg : Blk w g 67 (digA (absorbL dg0 b).s (absorbL dg0 b).r (absorbL dg0 b).n)) :
    Calls Try.prog 21 #[ptr g] w fun e w' => e = .returned (.int .i64 (b.length : Int)) ∧ w' = w := by
  refine (len_any g (absorbL dg0 b) w hg).mono ?_
  rintro e w' ⟨rfl, rfl⟩
  refine ⟨?_, rfl⟩
  rw [absorbL_n]
  show Ending.returned (.int .i64 ((0 + b.length : Nat) : Int)) = _
  rw [Nat.zero_add]

set_option maxRecDepth 20000 in
set_option maxHeartbeats 4000000 in
theorem pieces_any (v : Value) (m : Nat) (K O : Nat → Int) (V : Nat → Value) (rows : Nat → List Int) (w : World) (hr : ScriptAt w v m K O V rows) (hm : m ≤ 4398046511104) (hrl : ∀ i, i < m → ((rows i).length : Int) ≤ 9223372036854775807) :
    Calls Try.prog 5 #[v] w fun e w' => e = .returned (.bool true) ∧ Below w.heap.size w w' := by
  have HR : Keep (ScriptAt w v m K O V rows) := ⟨hr⟩
  have HL : Keep (∀ i, i < m → ((rows i).length : Int) ≤ 9223372036854775807) := ⟨hrl⟩
  obtain ⟨pa, pc, rfl⟩ := script_form hr
  clear hr hrl
  go_enter Try.func5, Try.ntmps5
  go_wp2_with fail
  refine (beyond15_any _ m K O V rows w HR.out (by omega) HL.out).mono ?_
  rintro e w1 ⟨bb, rfl, hbb, rfl⟩
  have HBB : Keep (bb = false → (concat rows m).length ≤ 2147483647) := ⟨hbb⟩
  clear hbb
  cases bb with
  | true =>
    go_wp2_with (go_at_call 9; refine (fixed_any _).mono ?_; rintro e w' ⟨rfl, hb⟩)
    go_ret
    exact ⟨rfl, hb⟩
  | false =>
    have htot := HBB.out rfl
    go_wp2_with fail
    refine (new_any w1).mono ?_
    rintro e w2 ⟨rfl, rfl⟩
    go_wp2_with fail
    have hBk0 : BooksAt (.slice (some ⟨w1.heap.size + 1 + 1 + 1, 0, none⟩) 1 1) 1 (fun _ => w1.heap.size + 1 + 1) (fun _ => w1.heap.size + 1) (fun _ => .slice none 0 0) (fun _ => []) 0 w1
        ((((w1.alloc (.cells (wordsA 8 beginF) 60)).alloc (.cells (digA beginF (fun _ => 0) 0) 67)).alloc (.cells #[ptr (w1.heap.size + 1), .slice none 0 0] 37)).alloc (.cells #[.pointer (some ⟨w1.heap.size + 1 + 1, 0, none⟩)] 33)) := books_new w1
    generalize ((((w1.alloc (.cells (wordsA 8 beginF) 60)).alloc (.cells (digA beginF (fun _ => 0) 0) 67)).alloc (.cells #[ptr (w1.heap.size + 1), .slice none 0 0] 37)).alloc (.cells #[.pointer (some ⟨w1.heap.size + 1 + 1, 0, none⟩)] 33)) = w3 at *
    go_loopw [3, 4] (fun lv i wr => ∃ t N p g B b, t ≤ m ∧ i = .int .i64 (t : Int) ∧ N ≤ t + 1 ∧ BooksAt lv N p g B b (concat rows t).length w1 wr) (fun _ i _ => m - (intOf i).toNat)
    case atStart => exact ⟨0, 1, _, _, _, _, by omega, rfl, by omega, hBk0⟩
    case round =>
      clear hBk0
      obtain ⟨t, N, p, g, B, b, ht, rfl, hN, hBk⟩ := hrel
      have HBk : Keep (BooksAt u3 N p g B b (concat rows t).length w1 wr) := ⟨hBk⟩
      obtain ⟨la, lc, rfl⟩ := books_form hBk
      have hpos := hBk.pos
      by_cases hlt : t < m
      · rcases HR.out.form with ⟨_, _, h1, h2⟩ | ⟨q, o, cap, h1, h2⟩
        · omega
        · injection h1 with h1 h3 h4
          subst h1
          clear h3 h4
          obtain ⟨c0, c1, c2⟩ := h2 t hlt
          have hq := cell_lt c0
          rw [← hBk.below.cell (p := ⟨q, o + t * 3, none⟩) hq] at c0
          rw [← hBk.below.cell (p := ⟨q, o + t * 3 + 1, none⟩) hq] at c1
          rw [← hBk.below.cell (p := ⟨q, o + t * 3 + 2, none⟩) hq] at c2
          obtain ⟨va, vc, hv⟩ := row_form (HR.out.row t hlt)
          rw [hv] at c2
          have hlt' : (t : Int) < (m : Int) := by omega
          have hcl := concat_le rows (t + 1) m hlt
          have hcc : Keep ((concat rows (t + 1)).length = (concat rows t).length + (rows t).length) := ⟨by simp [concat]⟩
          rw [hcc.out] at hcl
          have HRow : Keep (∀ wx, Below w1.heap.size w1 wx → RowAt wx (.slice va (rows t).length vc) (rows t)) := ⟨fun wx hx => by rw [← hv]; exact (HR.out.row t hlt).below hx⟩
          clear hBk h2
          go_wp2_with fail
          refine (place_any (O t) N _ hpos (by omega)).mono ?_
          rintro e w4 ⟨k, hk, rfl, rfl⟩
          have hbx := Blk.new wr 40 #[.int .i64 (K t), .int .i64 (O t), .slice va (rows t).length vc]
          have hBk1 := HBk.out.later (below_new wr (.cells #[.int .i64 (K t), .int .i64 (O t), .slice va (rows t).length vc] 40)) (Nat.le_refl _)
          generalize wr.alloc (.cells #[.int .i64 (K t), .int .i64 (O t), .slice va (rows t).length vc] 40) = w4 at *
          have cl : w4.cell? ⟨la, k, none⟩ = some (ptr (p k)) := by
            rw [hBk1.list.cellAt k (by omega)]
            simp [hk]
          have cp0 : w4.cell? ⟨p k, 0, none⟩ = some (ptr (g k)) := by rw [(hBk1.book k hk).book.cell]; rfl
          have cp1 : w4.cell? ⟨p k, 1, none⟩ = some (B k) := by rw [(hBk1.book k hk).book.cell]; rfl
          have cb0 : w4.cell? ⟨wr.heap.size, 0, none⟩ = some (.int .i64 (K t)) := by rw [hbx.cell]; rfl
          have cb1 : w4.cell? ⟨wr.heap.size, 1, none⟩ = some (.int .i64 (O t)) := by rw [hbx.cell]; rfl
          have cb2 : w4.cell? ⟨wr.heap.size, 2, none⟩ = some (.slice va (rows t).length vc) := by rw [hbx.cell]; rfl
          have hk' : (k : Int) < (N : Int) := by omega
          have HB1 : Keep (BooksAt (.slice (some ⟨la, 0, none⟩) N lc) N p g B b (concat rows t).length w1 w4) := ⟨hBk1⟩
          clear HBk hbx hBk1 c0 c1 c2
          by_cases k1 : K t = 1
          · have k1' : (K t == 1) = true := by simpa using k1
            go_wp2_with fail
            refine (new_any w4).mono ?_
            rintro e w5 ⟨rfl, rfl⟩
            have hB5 := HB1.out.later (belowA w4) (Nat.le_refl _)
            have hbk5 := book_new w1.heap.size w4
            have hl5 := hB5.list
            have hpl : ∀ i, i < N → p i < w4.heap.size ∧ g i < w4.heap.size := fun i hi => ⟨(HB1.out.book i hi).book.lt, (HB1.out.book i hi).dig.lt⟩
            have HP : Keep (∀ i, i < N → p i < w4.heap.size ∧ g i < w4.heap.size) := ⟨hpl⟩
            have hsz5 : w1.heap.size ≤ w4.heap.size := HB1.out.below.size
            have hci : ((((w4.alloc (.cells (wordsA 8 beginF) 60)).alloc (.cells (digA beginF (fun _ => 0) 0) 67)).alloc (.cells #[ptr (w4.heap.size + 1), .slice none 0 0] 37)).alloc (.cells #[.pointer (some ⟨w4.heap.size + 1 + 1, 0, none⟩)] 33)).cell? ⟨w4.heap.size + 1 + 1 + 1, 0, none⟩ = some (ptr (w4.heap.size + 1 + 1)) := by
              have h := Blk.new (((w4.alloc (.cells (wordsA 8 beginF) 60)).alloc (.cells (digA beginF (fun _ => 0) 0) 67)).alloc (.cells #[ptr (w4.heap.size + 1), .slice none 0 0] 37)) 33 #[.pointer (some ⟨w4.heap.size + 1 + 1, 0, none⟩)]
              simp only [World.size_alloc] at h
              rw [h.cell]; rfl
            have hszA : w1.heap.size ≤ ((((w4.alloc (.cells (wordsA 8 beginF) 60)).alloc (.cells (digA beginF (fun _ => 0) 0) 67)).alloc (.cells #[ptr (w4.heap.size + 1), .slice none 0 0] 37)).alloc (.cells #[.pointer (some ⟨w4.heap.size + 1 + 1, 0, none⟩)] 33)).heap.size := hB5.below.size
            have HB5 : Keep (BooksAt (.slice (some ⟨la, 0, none⟩) N lc) N p g B b (concat rows t).length w1 ((((w4.alloc (.cells (wordsA 8 beginF) 60)).alloc (.cells (digA beginF (fun _ => 0) 0) 67)).alloc (.cells #[ptr (w4.heap.size + 1), .slice none 0 0] 37)).alloc (.cells #[.pointer (some ⟨w4.heap.size + 1 + 1, 0, none⟩)] 33))) := ⟨hB5⟩
            clear hB5 hl5 hpl
            go_wp2_with (first | (at_builtin; refine wpList_app33 rfl (.tmp 53) (.tmp 57) rfl w1.heap.size (.slice (some ⟨la, 0, none⟩) N lc) N _ (w4.heap.size + 1 + 1 + 1) (w4.heap.size + 1 + 1) rfl rfl HB5.out.list hci (by omega) hszA ?_; intro lv6 w6 hown6 hgr6; refine Hid.out ?_))
            refine hid_in ?_
            have hB6 := HB5.out.push hbk5 (by omega) (by omega) (fun i hi => by have := (HP.out i hi).1; omega) (fun i hi => by have := (HP.out i hi).2; omega) (Nat.zero_le _) hgr6 hown6
            clear HB5 hbk5 hci hgr6 hown6 cl cp0 cp1 cb0 cb1 cb2
            go_wp2
            go_roundw
            case rel => exact ⟨t + 1, N + 1, _, _, _, _, by omega, by go_num, by omega, by rw [hcc.out]; exact hB6.later (Below.refl _ _) (by omega)⟩
            case measure => simp [intOf]; omega
          · by_cases k5 : K t = 5
            · have k1' : (K t == 1) = false := by simpa using k1
              have k5' : (K t == 5) = true := by simpa using k5
              go_wp2_with fail
              refine (copy_any (g k) (absorbL dg0 (b k)) w4 (HB1.out.book k hk).dig).mono ?_
              rintro e w5 ⟨rfl, rfl⟩
              have hB5 := HB1.out.later (below_new w4 (.cells (digA (absorbL dg0 (b k)).s (absorbL dg0 (b k)).r (absorbL dg0 (b k)).n) 67)) (Nat.le_refl _)
              have hd5 := Blk.new w4 67 (digA (absorbL dg0 (b k)).s (absorbL dg0 (b k)).r (absorbL dg0 (b k)).n)
              have hs5 : (w4.alloc (.cells (digA (absorbL dg0 (b k)).s (absorbL dg0 (b k)).r (absorbL dg0 (b k)).n) 67)).heap.size = w4.heap.size + 1 := by simp
              generalize w4.alloc (.cells (digA (absorbL dg0 (b k)).s (absorbL dg0 (b k)).r (absorbL dg0 (b k)).n) 67) = w5 at *
              have HP : Keep (∀ i, i < N → p i < w4.heap.size ∧ g i < w4.heap.size) := ⟨fun i hi => ⟨(HB1.out.book i hi).book.lt, (HB1.out.book i hi).dig.lt⟩⟩
              have hsz5 : w1.heap.size ≤ w4.heap.size := HB1.out.below.size
              have hrow5 := (hB5.book k hk).row
              obtain ⟨xa, xc, hxv⟩ := row_form (owns_row hrow5)
              have c5 : w5.cell? ⟨p k, 1, none⟩ = some (.slice xa (b k).length xc) := by rw [← hxv, (hB5.book k hk).book.cell]; rfl
              rw [hxv] at hrow5
              have HS5 : Keep (w5.heap.size = w4.heap.size + 1) := ⟨hs5⟩
              have hbk5 : BookAt w1.heap.size w5.heap.size w4.heap.size (.slice xa (b k).length xc) (b k) ((w5.alloc (.cells #[ptr w4.heap.size, .slice xa (b k).length xc] 37)).alloc (.cells #[.pointer (some ⟨w5.heap.size, 0, none⟩)] 33)) :=
                ⟨(Blk.new _ _ _).alloc _, (hd5.alloc _).alloc _, (hrow5.alloc _).alloc _⟩
              have hbl : Below w5.heap.size w5 ((w5.alloc (.cells #[ptr w4.heap.size, .slice xa (b k).length xc] 37)).alloc (.cells #[.pointer (some ⟨w5.heap.size, 0, none⟩)] 33)) := ((Below.refl _ _).alloc (Nat.le_refl _) _).alloc (by simp) _
              have HB5 : Keep (BooksAt (.slice (some ⟨la, 0, none⟩) N lc) N p g B b (concat rows t).length w1 ((w5.alloc (.cells #[ptr w4.heap.size, .slice xa (b k).length xc] 37)).alloc (.cells #[.pointer (some ⟨w5.heap.size, 0, none⟩)] 33))) := ⟨hB5.later hbl (Nat.le_refl _)⟩
              have HLn : Keep ((b k).length ≤ (concat rows t).length) := ⟨HB1.out.len k hk⟩
              have HK5 : Keep (BookAt w1.heap.size w5.heap.size w4.heap.size (.slice xa (b k).length xc) (b k) ((w5.alloc (.cells #[ptr w4.heap.size, .slice xa (b k).length xc] 37)).alloc (.cells #[.pointer (some ⟨w5.heap.size, 0, none⟩)] 33))) := ⟨hbk5⟩
              have hci : ((w5.alloc (.cells #[ptr w4.heap.size, .slice xa (b k).length xc] 37)).alloc (.cells #[.pointer (some ⟨w5.heap.size, 0, none⟩)] 33)).cell? ⟨w5.heap.size + 1, 0, none⟩ = some (ptr w5.heap.size) := by
                have h := Blk.new (w5.alloc (.cells #[ptr w4.heap.size, .slice xa (b k).length xc] 37)) 33 #[.pointer (some ⟨w5.heap.size, 0, none⟩)]
                simp only [World.size_alloc] at h
                rw [h.cell]; rfl
              have hszA := HB5.out.below.size
              clear hB5 hd5 hs5 hrow5 hbk5 hbl cl cp0 cp1 cb0 cb1 cb2 hxv
              go_wp2_with (first | (at_builtin; refine wpList_app33 rfl (.tmp 68) (.tmp 76) rfl w1.heap.size (.slice (some ⟨la, 0, none⟩) N lc) N _ (w5.heap.size + 1) w5.heap.size rfl rfl HB5.out.list hci (by omega) hszA ?_; intro lv6 w6 hown6 hgr6; refine Hid.out ?_))
              refine hid_in ?_
              have hB6 := HB5.out.push HK5.out (by rw [HS5.out]; omega) hsz5 (fun i hi => by have := (HP.out i hi).1; rw [HS5.out]; omega) (fun i hi => by have := (HP.out i hi).2; omega) HLn.out hgr6 hown6
              clear HB5 HK5 hci hgr6 hown6 c5
              go_wp2
              go_roundw
              case rel => exact ⟨t + 1, N + 1, _, _, _, _, by omega, by go_num, by omega, by rw [hcc.out]; exact hB6.later (Below.refl _ _) (by omega)⟩
              case measure => simp [intOf]; omega
            · have k1' : (K t == 1) = false := by simpa using k1
              have k5' : (K t == 5) = false := by simpa using k5
              go_wp2_with fail
              have hst : Calls Try.prog 19 #[ptr (p k), .agg #[.int .i64 (K t), .int .i64 (O t), .slice va (rows t).length vc]] w4 (StepPost w1.heap.size (p k) (g k) ((concat rows t).length + (rows t).length) w4) := by
                have hb := HB1.out.book k hk
                have hln := HB1.out.len k hk
                by_cases k2 : K t = 2
                · rw [k2]
                  refine step_write _ _ _ _ _ (rows t) _ _ _ w4 hb (by omega) (by omega) HB1.out.below.size fun wx hg => HRow.out wx (hg.to_below HB1.out.below ?_ HB1.out.below.size)
                  rintro j hj (rfl | rfl)
                  · have := (HB1.out.low k hk).1; omega
                  · have := (HB1.out.low k hk).2; omega
                · by_cases k3 : K t = 3
                  · rw [k3]; exact step_len _ _ _ _ _ _ _ _ w4 hb (by omega)
                  · by_cases k4 : K t = 4
                    · rw [k4]; exact step_reset _ _ _ _ _ _ _ _ w4 hb
                    · exact step_sum _ _ _ _ _ _ _ _ _ w4 hb (by omega) (by omega) (by simpa using k2) (by simpa using k3) (by simpa using k4)
              refine hst.mono ?_
              intro e w5 hpost
              obtain ⟨rfl, B', b', hB5⟩ := HB1.out.step hk hpost (by omega)
              go_wp2
              go_roundw
              case rel => exact ⟨t + 1, N, p, g, B', b', by omega, by go_num, by omega, by rw [hcc.out]; exact hB5⟩
              case measure => simp [intOf]; omega
      · obtain rfl : t = m := by omega
        have hlt' : ¬ ((t : Int) < (t : Int)) := by omega
        clear hBk
        go_wp2_with fail
        obtain ⟨wE, rfl⟩ : ∃ wE, wE = wr := ⟨_, rfl⟩
        go_loopw [9] (fun i wx => ∃ s : Nat, s ≤ N ∧ i = .int .i64 (s : Int) ∧ Below wE.heap.size wE wx) (fun i _ => N - (intOf i).toNat)
        case atStart => exact ⟨0, by omega, rfl, Below.refl _ _⟩
        case round =>
          obtain ⟨s, hs, rfl, hBx⟩ := hrel
          by_cases hsN : s < N
          · have hs' : (s : Int) < (N : Int) := by omega
            have hR0 : Below wE.heap.size wE wr.drew := hBx.drew
            have HBe : Keep (∀ wx, Below wE.heap.size wE wx → BookAt w1.heap.size (p s) (g s) (B s) (b s) wx ∧ wx.cell? ⟨la, s, none⟩ = some (ptr (p s)) ∧ wx.cell? ⟨p s, 0, none⟩ = some (ptr (g s)) ∧ wx.cell? ⟨p s, 1, none⟩ = some (B s)) := ⟨fun wx hx => by
              have h := HBk.out.later hx (Nat.le_refl _)
              have hb := h.book s hsN
              exact ⟨hb, by rw [h.list.cellAt s (by omega)]; simp [hsN], by rw [hb.book.cell]; rfl, by rw [hb.book.cell]; rfl⟩⟩
            have hlb : (b s).length ≤ 2147483647 := Nat.le_trans (HBk.out.len s hsN) htot
            obtain ⟨xa, xc, hxv⟩ := row_form (owns_row (HBe.out _ hR0).1.row)
            rw [hxv] at HBe
            have hneq := run_neq_arr (shaP (b s))
            go_wp2_with fail
            go_region_held3 (fun w' => (w'.cell? ⟨la, s, none⟩ = some (ptr (p s)) ∧ w'.cell? ⟨p s, 0, none⟩ = some (ptr (g s)) ∧ w'.cell? ⟨p s, 1, none⟩ = some (.slice xa (b s).length xc)) ∧ Below wE.heap.size wE w')
              ((first | exact ⟨(HBe.out _ hR0).2, hR0⟩ | exact ⟨(HBe.out _ (hR0.trans (hb1.mono hR0.size))).2, hR0.trans (hb1.mono hR0.size)⟩ | exact ⟨(HBe.out _ ((hR0.trans (hb1.mono hR0.size)).trans (hb2.mono (hR0.trans (hb1.mono hR0.size)).size))).2, ((hR0.trans (hb1.mono hR0.size)).trans (hb2.mono (hR0.trans (hb1.mono hR0.size)).size))⟩))
              (first | (go_at_call 20; refine (sum_sha (g s) (b s) _ (HBe.out _ hR0).1.dig hlb).mono ?_; rintro e w' ⟨rfl, hb1⟩)
                     | (go_at_call 12; refine (refOf_sha (.slice xa (b s).length xc) (b s) _ (owns_row (HBe.out _ (hR0.trans (hb1.mono hR0.size))).1.row) (by omega)).mono ?_; rintro e w' ⟨rfl, hb2⟩)
                     | (go_at_call 21; refine (len_sha (g s) (b s) _ (HBe.out _ ((hR0.trans (hb1.mono hR0.size)).trans (hb2.mono (hR0.trans (hb1.mono hR0.size)).size))).1.dig).mono ?_; rintro e w' ⟨rfl, rfl⟩))
            have hBn : Below wE.heap.size wE w' := ((hR0.trans (hb1.mono hR0.size)).trans (hb2.mono (hR0.trans (hb1.mono hR0.size)).size))
            go_wp2
            go_roundw
            case rel => exact ⟨s + 1, by omega, by go_num, hBn⟩
            case measure => simp [intOf]; omega
          · obtain rfl : s = N := by omega
            have hs' : ¬ ((s : Int) < (s : Int)) := by omega
            go_wp2_with fail
            refine (fixed_any wr).mono ?_
            rintro e w6 ⟨rfl, hb6⟩
            have hB6 := HBk.out.below.trans ((hBx.trans (hb6.mono hBx.size)).mono HBk.out.below.size)
            go_wp2
            go_ret
            exact ⟨rfl, hB6⟩
end Go.Proofs.Ytollbkibocdbmaa
