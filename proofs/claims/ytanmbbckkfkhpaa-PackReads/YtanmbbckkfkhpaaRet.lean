import Derived.Test.YtanmbbckkfkhpaaLayB
import Derived.Test.YtanmbbckkfkhpaaBack
import Derived.Test.YtanmbbckkfkhpaaScr
namespace Go.Proofs.Ytanmbbckkfkhpaa
open Go.RowKit

/-- An Out of the call's own, made behind wB. -/
structure OwnOut (wB : World) (p : Nat) (v : Value) (l : List Int) (w : World) : Prop where
  out : OutAt w p v l
  own : ∀ k, OF p v k → wB.heap.size ≤ k
  below : Below wB.heap.size wB w
theorem OwnOut.lt {wB : World} {p : Nat} {v : Value} {l : List Int} {w : World} (h : OwnOut wB p v l w) : ∀ k, k < wB.heap.size → ¬ OF p v k := fun k hk hf => by have := h.own k hf; omega
theorem OwnOut.next {wB : World} {p : Nat} {v v' : Value} {l l' : List Int} {w w' : World} (h : OwnOut wB p v l w) (ho : OutAt w' p v' l') (hm : Moved w v v') (hg : Grown w w' (OF p v)) : OwnOut wB p v' l' w' := by
  have hs := h.below.size
  refine ⟨ho, fun k hf => ?_, h.below.trans (hg.to_below h.lt hs)⟩
  rcases hf with hf | hf
  · exact h.own k (.inl hf)
  · rcases hm with e | ⟨j, e, hj⟩
    · exact h.own k (.inr (e ▸ hf))
    · rw [e] at hf; injection hf with hf; omega
theorem OwnOut.later {wB : World} {p : Nat} {v : Value} {l : List Int} {w w' : World} (h : OwnOut wB p v l w) (hb : Below w.heap.size w w') : OwnOut wB p v l w' :=
  ⟨h.out.grown (Grown.below (S := fun _ => False) hb) fun _ _ h => h, h.own, h.below.trans (hb.mono h.below.size)⟩
theorem OwnOut.keep {wB : World} {p : Nat} {v : Value} {l : List Int} {w w' : World} {S : Nat → Prop} (h : OwnOut wB p v l w) (hg : Grown w w' S) (hS : ∀ k, OF p v k → ¬ S k) (hB : ∀ k, k < wB.heap.size → ¬ S k) : OwnOut wB p v l w' :=
  ⟨h.out.grown hg hS, h.own, h.below.trans (hg.to_below hB h.below.size)⟩

set_option maxRecDepth 4000 in
set_option maxHeartbeats 4000000 in
theorem returns_any (v : Value) (m : Nat) (K : Nat → Int) (X : Nat → Nat) (N : Nat → Int) (V : Nat → Value) (rows : Nat → List Int) (more : Int) (w : World) (hr : ScriptAt w v m K X N V rows) (hm : m ≤ 4398046511104) (hmore : 0 ≤ more ∧ more < 256) :
    Calls Try.prog 6 #[v, .int .u8 more] w fun e w' => e = .returned (.bool true) ∧ Below w.heap.size w w' := by
  have HR := Keep.mk hr
  have HMo := Keep.mk hmore
  obtain ⟨pa, pc, rfl⟩ := script_form hr
  have HM := Keep.mk hm
  have hmi : (m : Int) ≤ 4398046511104 := by omega
  clear hr hmore hm
  go_enter Try.func6, Try.ntmps6
  go_wp2_with fail
  refine (awake_any w).mono ?_
  rintro e w1 ⟨rfl, hb1⟩
  have HB1 := Keep.mk hb1
  have HR1 := Keep.mk (HR.out.below hb1)
  clear hb1
  go_wp2_with fail
  refine (beyond_any _ m K X N V rows w1 HR1.out (by omega)).mono ?_
  rintro e w1' ⟨bb, rfl, hbb, hw1⟩
  rw [hw1]
  have HBB := Keep.mk hbb
  clear hbb hw1
  cases bb with
  | true =>
    go_wp2
    go_ret
    exact ⟨rfl, HB1.out⟩
  | false =>
    have HT : Keep (tot rows m ≤ 2147483647) := ⟨HBB.out rfl⟩
    go_wp2_with fail
    refine (newOut_any w1).mono ?_
    rintro e w2 ⟨rfl, hw2⟩
    have HO2 : Keep (OwnOut w1 w1.heap.size (.slice none 0 0) [] w2) := ⟨by
      rw [hw2]
      refine ⟨outAt_new w1, fun k hf => ?_, below_new w1 _⟩
      rcases hf with hf | hf
      · omega
      · simp [Value.ownBlock] at hf⟩
    clear hw2 HBB
    go_wp2
    go_loopw [6, 25] (fun n i wr => ∃ (t : Nat) (v1 : Value) (nn : Nat), t ≤ m ∧ n = .int .i64 (nn : Int) ∧ i = .int .i64 (t : Int) ∧ Keep (nn ≤ (laid K X rows t).length) ∧ OwnOut w1 w1.heap.size v1 (laid K X rows t) wr) (fun _ i _ => m - (intOf i).toNat)
    case atStart => exact ⟨0, .slice none 0 0, 0, by omega, rfl, rfl, ⟨Nat.zero_le _⟩, HO2.out⟩
    case round =>
      obtain ⟨t, v1, nn, ht, rfl, rfl, hnn, hO⟩ := hrel
      by_cases hlt : t < m
      · have hlt' : (t : Int) < (m : Int) := by omega
        obtain ⟨q, o, rfl, hrg⟩ := HR1.out.at hlt
        have hrg2 := rangeAt_below hrg hO.below
        obtain ⟨va, vc, hv⟩ := row_form (HR1.out.row t hlt)
        have c0 := hrg2 0 _ rfl
        have c1 := hrg2 1 _ rfl
        have c2 := hrg2 2 _ rfl
        have c3 := hrg2 3 _ rfl
        simp only [Nat.add_zero] at c0
        rw [hv] at c3
        have htt := tot_le rows (t + 1) m hlt
        simp only [tot] at htt
        have hll := laid_len K X rows t
        have HL1 : Keep ((laid K X rows t).length + (rows t).length + 40 ≤ 140737488355328) := ⟨by have := HT.out; omega⟩
        have HL2 : Keep ((rows t).length + 40 ≤ 140737488355328) := ⟨by have := HT.out; omega⟩
        have HO := Keep.mk hO
        have HRow : Keep (∀ wx, Below w1.heap.size w1 wx → RowAt wx (.slice va (rows t).length vc) (rows t)) := ⟨fun wx hx => by rw [← hv]; exact (HR1.out.row t hlt).below hx⟩
        clear hrg hrg2 hO htt hll
        go_wp2_with fail
        have hbx := Blk.new wr 43 #[.int .i64 (K t), .int .u64 (X t : Int), .int .i64 (N t), .slice va (rows t).length vc]
        have hO4 := HO.out.later (below_new wr (.cells #[.int .i64 (K t), .int .u64 (X t : Int), .int .i64 (N t), .slice va (rows t).length vc] 43))
        have hlw := HO.out.below.size
        generalize wr.alloc (.cells #[.int .i64 (K t), .int .u64 (X t : Int), .int .i64 (N t), .slice va (rows t).length vc] 43) = w4 at *
        have HO4 := Keep.mk hO4
        have HBx := Keep.mk hbx
        have hbel : Keep (∀ wx, (Grown w4 wx fun k => OF w1.heap.size v1 k ∨ (Value.slice none 0 0).ownBlock = some k) → Below w1.heap.size w1 wx) := ⟨fun wx hg => HO4.out.below.trans (hg.to_below (fun k hk hf => by
          rcases hf with hf | hf
          · exact HO4.out.lt k hk hf
          · simp [Value.ownBlock] at hf) HO4.out.below.size)⟩
        clear hO4 hbx
        refine (lay_any w1.heap.size v1 (.slice none 0 0) (.slice va (rows t).length vc) (laid K X rows t) [] (rows t) (K t) (X t) (N t) w4 HO4.out.out (own_nil _) (fun k hk => by simp [Value.ownBlock] at hk) (HRow.out w4 HO4.out.below) (fun wx hg => HRow.out wx (hbel.out wx hg)) (HR1.out.num t hlt) (HR1.out.byts t hlt) HL1.out (by have := HL2.out; simp only [List.length_nil]; omega)).mono ?_
        rintro e w5 ⟨v5, wv5, rfl, ho5, _, hm5, _, _, hg5⟩
        have hgo : Grown w4 w5 (OF w1.heap.size v1) := hg5.mono fun k _ hf => by
          rcases hf with hf | hf
          · exact hf
          · simp [Value.ownBlock] at hf
        have hO5 : OwnOut w1 w1.heap.size v5 (laid K X rows (t + 1)) w5 := HO4.out.next ho5 hm5 hgo
        have hbx5 := hgo.blk HBx.out (by
          rintro (hf | hf)
          · exact blk_ne HBx.out HO4.out.out.blk (by decide) hf
          · exact absurd (HBx.out.typ.one (HO4.out.out.own.typ hf)) (by decide))
        have d0 : w5.cell? ⟨wr.heap.size, 0, none⟩ = some (.int .i64 (K t)) := by rw [hbx5.cell]; rfl
        have d1 : w5.cell? ⟨wr.heap.size, 1, none⟩ = some (.int .u64 (X t : Int)) := by rw [hbx5.cell]; rfl
        have HO5 := Keep.mk hO5
        have hlen5 : (laid K X rows (t + 1)).length = (laid K X rows t).length + (frm (K t) (X t) (rows t)).length := by simp [laid]
        have hl5b : (laid K X rows (t + 1)).length ≤ 2147483647 := Nat.le_trans (laid_len K X rows (t + 1)) (Nat.le_trans (tot_le rows (t + 1) m hlt) HT.out)
        have Hl5b := Keep.mk hl5b
        have Hlen5 := Keep.mk hlen5
        clear ho5 hm5 hg5 hgo hO5 hbx5 hlen5 hl5b HO4 HBx hbel
        by_cases k1 : K t = 1
        · have k1' : (K t == 1) = true := by simpa using k1
          have hfr : Keep ((frm (K t) (X t) (rows t)).length = (numL (X t)).length) := ⟨by rw [k1, frm_1]⟩
          clear k1
          go_wp2_with fail
          refine (size_any (X t) w5 (HR1.out.num t hlt)).mono ?_
          rintro e w5' ⟨rfl, hw5⟩
          rw [hw5]
          clear hw5
          obtain ⟨z, hz⟩ : ∃ z, Keep (z = (numL (X t)).length) := ⟨_, ⟨rfl⟩⟩
          rw [← hz.out] at hfr ⊢
          have hzb : z ≤ 10 := by rw [hz.out]; exact numL_len _
          have hnb : nn ≤ 2147483647 := by have := hnn.out; have := Hlen5.out; have := Hl5b.out; omega
          have hi1 : (nn : Int) + (z : Int) ≤ 9223372036854775807 := by omega
          have hi2 : ¬ ((laid K X rows (t + 1)).length : Int) < (nn : Int) + (z : Int) := by have := hnn.out; have := Hlen5.out; have := hfr.out; omega
          obtain ⟨LL, hLL⟩ : ∃ LL, Keep (LL = laid K X rows (t + 1)) := ⟨_, ⟨rfl⟩⟩
          rw [← hLL.out] at HO5 hi2 Hlen5
          go_wp2_with fail
          refine (olen_any w1.heap.size v5 LL w5 HO5.out.out).mono ?_
          rintro e w5' ⟨rfl, hw5⟩
          rw [hw5]
          clear hw5
          go_wp2
          go_roundw
          case rel => exact ⟨t + 1, v5, nn + z, by omega, by go_num, by go_num, ⟨by rw [← hLL.out]; have := hnn.out; have := Hlen5.out; have := hfr.out; omega⟩, by rw [← hLL.out]; exact HO5.out⟩
          case measure => simp only [intOf]; omega
        · have k1' : (K t == 1) = false := by simpa using k1
          go_wp2
          go_roundw
          case rel => exact ⟨t + 1, v5, nn, by omega, by go_num, by go_num, ⟨by have := hnn.out; have := Hlen5.out; omega⟩, HO5.out⟩
          case measure => simp only [intOf]; omega
      · obtain rfl : t = m := by omega
        have hlt' : ¬ ((t : Int) < (t : Int)) := by omega
        have HO := Keep.mk hO
        obtain ⟨L, hL⟩ : ∃ L, Keep (L = laid K X rows t) := ⟨_, ⟨rfl⟩⟩
        rw [← hL.out] at HO
        have hLl : L.length ≤ 2147483647 := by rw [hL.out]; exact Nat.le_trans (laid_len K X rows t) HT.out
        have hLi : (L.length : Int) ≤ 2147483647 := by omega
        have HLl := Keep.mk hLl
        have HLB : Keep (Byts L) := ⟨by
          rw [hL.out]
          have : ∀ u, u ≤ t → Byts (laid K X rows u) := by
            intro u
            induction u with
            | zero => intro _; exact Byts.nil
            | succ u ih => intro hu; exact (ih (by omega)).app (frm_byts _ _ _ (HR1.out.num u (by omega)) (HR1.out.byts u (by omega)) (by have := HR1.out.len u (by omega); omega))
          exact this t (Nat.le_refl _)⟩
        have Hw1r := Keep.mk HO.out.below.size
        clear hO hLl hnn
        go_wp2_with fail
        refine (odone_any w1.heap.size v1 L wr HO.out.out (by have := HLl.out; omega)).mono ?_
        rintro e w6 ⟨rfl, hw6⟩
        have HD6 : Keep (Own w6 (.slice (some ⟨wr.heap.size, 0, none⟩) L.length L.length) L) := ⟨by rw [hw6]; exact own_done wr L (by have := HLl.out; omega)⟩
        have hb6 : Below wr.heap.size wr w6 := by rw [hw6]; exact below_new _ _
        have HO6 := Keep.mk (HO.out.later hb6)
        clear hw6 hb6 HO
        go_wp2_with fail
        refine (olen_any w1.heap.size v1 L w6 HO6.out.out).mono ?_
        rintro e w6' ⟨rfl, hw⟩
        rw [hw]
        clear hw
        go_wp2_with fail
        refine (newIn_any _ L w6 HD6.out.row).mono ?_
        rintro e w7 ⟨rfl, hw7⟩
        have HI7 : Keep (InAt w7 w6.heap.size (strOfNums L) 0 none) := ⟨by rw [hw7]; exact inAt_new _ _⟩
        have hg7 : Below w6.heap.size w6 w7 := by rw [hw7]; exact below_new _ _
        have HD7 := Keep.mk (HD6.out.grown (Grown.below (S := fun _ => False) hg7) fun _ _ h => h)
        have HB7 := Keep.mk (HO6.out.below.trans (hg7.mono HO6.out.below.size))
        have Hs67 := Keep.mk hg7.size
        have Hs16 := Keep.mk HO6.out.below.size
        have Hne : Keep (wr.heap.size < w6.heap.size) := ⟨HD6.out.lt _ rfl⟩
        clear hw7 hg7 HO6 HD6
        have HD7b := Keep.mk (HD7.out.box (.cells #[.int .u8 more] 5))
        go_wp2_with (first | (at_builtin; refine wpList_app rfl (.tmp 59) (.tmp 61) rfl (.slice (some ⟨wr.heap.size, 0, none⟩) L.length L.length) (.slice (some ⟨w7.heap.size, 0, none⟩) 1 1) L [more] rfl rfl HD7b.out (row_one w7 _) (by have := HLl.out; simp only [List.length_cons, List.length_nil]; omega) ?_; intro v8 w8 hp; refine Hid.out ?_))
        refine hid_in ?_
        have hg8 : Grown w7 w8 (fun k => k = wr.heap.size) := (Grown.alloc w7 _ _).next hp.grown fun i _ e => by
          have : some wr.heap.size = some i := e
          injection this with this; exact this.symm
        have HR8 := Keep.mk hp.1.row
        have HI8 : Keep (InAt w8 w6.heap.size (strOfNums L) 0 none) := ⟨⟨hg8.blk HI7.out.blk (by have := Hne.out; omega), HI7.out.le⟩⟩
        have HB8 : Keep (Below w1.heap.size w1 w8) := ⟨HB7.out.trans (hg8.to_below (fun k hk e => by have := Hw1r.out; omega) HB7.out.size)⟩
        have Hs68 : Keep (w6.heap.size < w8.heap.size) := ⟨HI8.out.blk.lt⟩
        clear hg8 hp HD7 HD7b HB7 HI7
        go_wp2_with fail
        refine (newIn_any v8 (L ++ [more]) w8 HR8.out).mono ?_
        rintro e w9 ⟨rfl, hw9⟩
        have HJ9 : Keep (InAt w9 w8.heap.size (strOfNums (L ++ [more])) 0 none) := ⟨by rw [hw9]; exact inAt_new _ _⟩
        have hg9 : Below w8.heap.size w8 w9 := by rw [hw9]; exact below_new _ _
        have HI9 : Keep (InAt w9 w6.heap.size (strOfNums L) 0 none) := ⟨⟨HI8.out.blk.below hg9 HI8.out.blk.lt, HI8.out.le⟩⟩
        have HB9 := Keep.mk (HB8.out.trans (hg9.mono HB8.out.size))
        obtain ⟨s1, hs1⟩ : ∃ s1, Keep (s1 = strOfNums L) := ⟨_, ⟨rfl⟩⟩
        obtain ⟨s2, hs2⟩ : ∃ s2, Keep (s2 = strOfNums (L ++ [more])) := ⟨_, ⟨rfl⟩⟩
        rw [← hs1.out] at HI9
        rw [← hs2.out] at HJ9
        have HL1 : Keep (lst s1 = L) := ⟨by rw [hs1.out]; exact lst_nums HLB.out⟩
        have HL2 : Keep (lst s2 = L ++ [more]) := ⟨by rw [hs2.out]; exact lst_nums (HLB.out.app (Byts.one HMo.out))⟩
        have HZ1 : Keep (s1.size = L.length) := ⟨by rw [← lst_len, HL1.out]⟩
        have HZ2 : Keep (s2.size = L.length + 1) := ⟨by rw [← lst_len, HL2.out]; simp⟩
        obtain ⟨r1, hr1⟩ : ∃ r1, Keep (r1 = w6.heap.size) := ⟨_, ⟨rfl⟩⟩
        obtain ⟨r2, hr2⟩ : ∃ r2, Keep (r2 = w8.heap.size) := ⟨_, ⟨rfl⟩⟩
        have Hr12 : Keep (r1 ≠ r2) := ⟨by rw [hr1.out, hr2.out]; have := Hs68.out; omega⟩
        have Hr1 : Keep (w1.heap.size ≤ r1) := ⟨by rw [hr1.out]; exact Hs16.out⟩
        have Hr2 : Keep (w1.heap.size ≤ r2) := ⟨by rw [hr2.out]; have := Hs68.out; have := Hs16.out; omega⟩
        rw [← hr1.out] at HI9 ⊢
        rw [← hr2.out] at HJ9 ⊢
        clear hw9 hg9 HI8 HB8 HR8 hs1 hs2 hr1 hr2 Hs68 Hs16 Hs67
        go_wp2
        go_loopw [72] (fun i wx => ∃ u : Nat, u ≤ t ∧ i = .int .i64 (u : Int) ∧ InAt wx r1 s1 (laid K X rows u).length none ∧ InAt wx r2 s2 (laid K X rows u).length none ∧ Below w1.heap.size w1 wx) (fun i _ => t - (intOf i).toNat)
        case atStart => exact ⟨0, by omega, rfl, HI9.out, HJ9.out, HB9.out⟩
        case round =>
          obtain ⟨u, hu, rfl, hI, hJ, hB⟩ := hrel
          by_cases hut : u < t
          · have hut' : (u : Int) < (t : Int) := by omega
            obtain ⟨q, o, rfl, hrg⟩ := HR1.out.at hut
            have hrg2 := rangeAt_below hrg hB
            obtain ⟨va, vc, hv⟩ := row_form (HR1.out.row u hut)
            have c0 := hrg2 0 _ rfl
            have c1 := hrg2 1 _ rfl
            have c2 := hrg2 2 _ rfl
            have c3 := hrg2 3 _ rfl
            simp only [Nat.add_zero] at c0
            rw [hv] at c3
            have HRow : Keep (∀ wx, Below w1.heap.size w1 wx → RowAt wx (.slice va (rows u).length vc) (rows u)) := ⟨fun wx hx => by rw [← hv]; exact (HR1.out.row u hut).below hx⟩
            obtain ⟨rest, hrest⟩ := laid_pre K X rows (u + 1) t hut
            have HD1 : Keep ((lst s1).drop (laid K X rows u).length = frm (K u) (X u) (rows u) ++ rest) := ⟨by
              rw [HL1.out, hL.out, hrest]; simp only [laid, List.append_assoc]; exact List.drop_left⟩
            have HD2 : Keep ((lst s2).drop (laid K X rows u).length = frm (K u) (X u) (rows u) ++ (rest ++ [more])) := ⟨by
              rw [HL2.out, hL.out, hrest]; simp only [laid, List.append_assoc]; exact List.drop_left⟩
            have HLn : Keep ((laid K X rows (u + 1)).length = (laid K X rows u).length + (frm (K u) (X u) (rows u)).length) := ⟨by simp [laid]⟩
            have hbx := Blk.new wr 43 #[.int .i64 (K u), .int .u64 (X u : Int), .int .i64 (N u), .slice va (rows u).length vc]
            have hb4 := below_new wr (.cells #[.int .i64 (K u), .int .u64 (X u : Int), .int .i64 (N u), .slice va (rows u).length vc] 43)
            have HI4 := Keep.mk (hI.box (.cells #[.int .i64 (K u), .int .u64 (X u : Int), .int .i64 (N u), .slice va (rows u).length vc] 43))
            have HJ4 := Keep.mk (hJ.box (.cells #[.int .i64 (K u), .int .u64 (X u : Int), .int .i64 (N u), .slice va (rows u).length vc] 43))
            have HB4 := Keep.mk (hB.trans (hb4.mono hB.size))
            have HBx := Keep.mk hbx
            have Hlb : Keep ((rows u).length ≤ 140737488355328) := ⟨by have := HR1.out.len u hut; omega⟩
            clear hrg hrg2 hI hJ hB hrest hbx hb4
            go_wp2_with fail
            generalize wr.alloc (.cells #[.int .i64 (K u), .int .u64 (X u : Int), .int .i64 (N u), .slice va (rows u).length vc] 43) = w4 at *
            clear c0 c1 c2 c3
            refine (back_any r1 s1 _ (.slice va (rows u).length vc) (rows u) rest (K u) (X u) (N u) w4 HI4.out (by have := HZ1.out; have := HLl.out; omega) HD1.out (fun wx hg => HRow.out wx (HB4.out.trans (hg.to_below (fun k hk e => by have := Hr1.out; omega) HB4.out.size))) (HR1.out.num u hut) Hlb.out).mono ?_
            rintro e w5 ⟨rfl, hI5, hg5⟩
            have HI5 := Keep.mk hI5
            have HJ5 : Keep (InAt w5 r2 s2 (laid K X rows u).length none) := ⟨⟨hg5.blk HJ4.out.blk (fun e => Hr12.out e.symm), HJ4.out.le⟩⟩
            have HB5 := Keep.mk (HB4.out.trans (hg5.to_below (fun k hk e => by have := Hr1.out; omega) HB4.out.size))
            have hbx5 := hg5.blk HBx.out (fun e => by rw [e] at HBx; exact absurd (blk_type HBx.out HI4.out.blk) (by decide))
            have c0 : w5.cell? ⟨wr.heap.size, 0, none⟩ = some (.int .i64 (K u)) := by rw [hbx5.cell]; rfl
            have c1 : w5.cell? ⟨wr.heap.size, 1, none⟩ = some (.int .u64 (X u : Int)) := by rw [hbx5.cell]; rfl
            have c2 : w5.cell? ⟨wr.heap.size, 2, none⟩ = some (.int .i64 (N u)) := by rw [hbx5.cell]; rfl
            have c3 : w5.cell? ⟨wr.heap.size, 3, none⟩ = some (.slice va (rows u).length vc) := by rw [hbx5.cell]; rfl
            clear hI5 hg5 hbx5 HI4 HJ4 HB4
            go_wp2_with fail
            refine (back_any r2 s2 _ (.slice va (rows u).length vc) (rows u) (rest ++ [more]) (K u) (X u) (N u) w5 HJ5.out (by have := HZ2.out; have := HLl.out; omega) HD2.out (fun wx hg => HRow.out wx (HB5.out.trans (hg.to_below (fun k hk e => by have := Hr2.out; omega) HB5.out.size))) (HR1.out.num u hut) Hlb.out).mono ?_
            rintro e w6 ⟨rfl, hJ6, hg6⟩
            have HJ6 := Keep.mk hJ6
            have HI6 : Keep (InAt w6 r1 s1 ((laid K X rows u).length + (frm (K u) (X u) (rows u)).length) none) := ⟨⟨hg6.blk HI5.out.blk (fun e => Hr12.out e), HI5.out.le⟩⟩
            have HB6 := Keep.mk (HB5.out.trans (hg6.to_below (fun k hk e => by have := Hr2.out; omega) HB5.out.size))
            clear hJ6 hg6 c0 c1 c2 c3 HI5 HJ5 HB5
            go_wp2
            go_roundw
            case rel => exact ⟨u + 1, by omega, by go_num, by rw [HLn.out]; exact HI6.out, by rw [HLn.out]; exact HJ6.out, HB6.out⟩
            case measure => simp only [intOf]; omega
          · obtain rfl : u = t := by omega
            have hut' : ¬ ((u : Int) < (u : Int)) := by omega
            rw [← hL.out] at hI hJ
            have HI := Keep.mk hI
            have HJ := Keep.mk hJ
            have HB := Keep.mk hB
            clear hI hJ hB
            go_wp2_with fail
            refine (iend_good r2 s2 L.length wr HJ.out (by have := HZ2.out; have := HLl.out; omega) 23 (by rw [if_pos (by have := HZ2.out; omega)])).mono ?_
            rintro e w4 ⟨bad, er, rfl, hJ4, hg4, he4⟩
            rcases he4 with ⟨h, _⟩ | ⟨_, q, hq, rfl, rfl, hbad⟩
            case inl => exact absurd h (by decide)
            have HBad : Keep (BadAt w4 q 23 L.length) := ⟨hbad⟩
            have HI4 : Keep (InAt w4 r1 s1 L.length none) := ⟨⟨hg4.blk HI.out.blk (fun e => Hr12.out e), HI.out.le⟩⟩
            have HB4 := Keep.mk (HB.out.trans (hg4.to_below (fun k hk e => by have := Hr2.out; omega) HB.out.size))
            clear hJ4 hg4 hbad HI HJ HB
            unfold err
            go_wp2_with fail
            refine (told_err q 23 L.length w4 HBad.out (by decide)).mono ?_
            rintro e w5 ⟨rfl, hb5⟩
            have HI5 : Keep (InAt w5 r1 s1 L.length none) := ⟨⟨HI4.out.blk.below hb5 HI4.out.blk.lt, HI4.out.le⟩⟩
            have HB5 := Keep.mk (HB4.out.trans (hb5.mono HB4.out.size))
            clear hb5 HI4 HB4 HBad
            go_wp2_with (first | (refine wpList_new rfl 56 rfl _ Try.new56 ?_; refine Hid.out ?_))
            refine hid_in ?_
            have HN := Keep.mk (Blk.new w5 56 #[.int .i64 0, .int .i64 0])
            have HI6 := Keep.mk (HI5.out.box (.cells #[.int .i64 0, .int .i64 0] 56))
            have HB6 := Keep.mk (HB5.out.trans ((below_new w5 (.cells #[.int .i64 0, .int .i64 0] 56)).mono HB5.out.size))
            have HS5 := Keep.mk HB5.out.size
            generalize w5.alloc (.cells #[.int .i64 0, .int .i64 0] 56) = w6 at *
            have d0 : w6.cell? ⟨w5.heap.size, 0, none⟩ = some (.int .i64 0) := by rw [HN.out.cell]; rfl
            have d1 : w6.cell? ⟨w5.heap.size, 1, none⟩ = some (.int .i64 0) := by rw [HN.out.cell]; rfl
            have f0 := HN.out.frozen 0
            have f1 := HN.out.frozen 1
            go_wp2_with fail
            obtain ⟨w7, hw7⟩ : ∃ w7, Keep (w7 = (w6.setCell ⟨w5.heap.size, 0, none⟩ (.int .i64 23)).setCell ⟨w5.heap.size, 1, none⟩ (.int .i64 (L.length : Int))) := ⟨_, ⟨rfl⟩⟩
            rw [← hw7.out]
            have hN7 : Blk w7 w5.heap.size 56 #[.int .i64 23, .int .i64 (L.length : Int)] := by rw [hw7.out]; exact (HN.out.set 0 _).set 1 _
            have hg7 : Grown w6 w7 (fun k => k = w5.heap.size) := by rw [hw7.out]; exact (Grown.setCell w6 _ _ _ (S := fun k => k = w5.heap.size) fun _ => rfl).trans (Grown.setCell _ _ _ _ (S := fun k => k = w5.heap.size) fun _ => rfl)
            have HI7 : Keep (InAt w7 r1 s1 L.length none) := ⟨⟨hg7.blk HI6.out.blk (fun e => by have h1 := HI6.out.blk; rw [e] at h1; exact absurd (blk_type HN.out h1) (by decide)), HI6.out.le⟩⟩
            have HB7 := Keep.mk (HB6.out.trans (hg7.to_below (fun k hk e => by have := HS5.out; omega) HB6.out.size))
            have HN7 := Keep.mk hN7
            have Hr15 : Keep (r1 < w5.heap.size) := ⟨HI5.out.blk.lt⟩
            clear hN7 hg7 hw7 d0 d1 f0 f1 HN HI6 HB6 HI5
            refine (iend_good r1 s1 L.length w7 HI7.out (by have := HZ1.out; have := HLl.out; omega) 0 (by rw [if_neg (by have := HZ1.out; omega)])).mono ?_
            rintro e w8 ⟨bad, er, rfl, hI8, hg8, he8⟩
            rcases he8 with ⟨_, rfl, rfl⟩ | ⟨h, _⟩
            case inr => exact absurd rfl h
            have HI8 := Keep.mk hI8
            have HN8 := Keep.mk (hg8.blk HN7.out (by have := Hr15.out; omega))
            have HB8 := Keep.mk (HB7.out.trans (hg8.to_below (fun k hk e => by have := Hr1.out; omega) HB7.out.size))
            clear hI8 hg8 HI7 HB7 HN7
            go_wp2_with fail
            refine (iat_any r1 s1 L.length none w8 HI8.out).mono ?_
            rintro e w8' ⟨rfl, hw⟩
            rw [hw]
            clear hw
            go_wp2_with fail
            refine (ileft_any r1 s1 L.length none w8 HI8.out (by have := HZ1.out; have := HLl.out; omega)).mono ?_
            rintro e w9 ⟨rfl, qd, hw⟩
            have hN9 : Blk w9 w5.heap.size 56 #[.int .i64 23, .int .i64 (L.length : Int)] := by rw [hw]; exact HN8.out.drewN qd
            have HB9 : Keep (Below w1.heap.size w1 w9) := ⟨by rw [hw]; exact HB8.out.trans ((below_drewN w8 qd).mono HB8.out.size)⟩
            have hz1 := HZ1.out
            rw [hz1, Int.sub_self]
            have d0 : w9.cell? ⟨w5.heap.size, 0, none⟩ = some (.int .i64 23) := by rw [hN9.cell]; rfl
            have d1 : w9.cell? ⟨w5.heap.size, 1, none⟩ = some (.int .i64 (L.length : Int)) := by rw [hN9.cell]; rfl
            clear hw hN9 hz1 HB8 HN8 HI8
            go_wp2
            go_ret
            exact ⟨rfl, HB1.out.trans (HB9.out.mono HB1.out.size)⟩
end Go.Proofs.Ytanmbbckkfkhpaa
