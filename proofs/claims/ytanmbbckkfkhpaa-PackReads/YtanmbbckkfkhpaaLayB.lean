import Derived.Test.YtanmbbckkfkhpaaLay
namespace Go.Proofs.Ytanmbbckkfkhpaa
open Go.RowKit

theorem hl_byts (m : List Int) (h : Byts m) : Byts (hl 32 (hof m)) := fun c hc => by
  simp [hl] at hc
  obtain ⟨i, _, rfl⟩ := hc
  exact h.getD i

set_option maxRecDepth 2000 in
set_option maxHeartbeats 1000000 in
theorem lay_byte (p : Nat) (v wv vB : Value) (l wl m : List Int) (X : Nat) (N : Int) (w : World) (hO : OutAt w p v l) (hR : Own w wv wl) (hs : ∀ k, wv.ownBlock = some k → ¬ OF p v k) (hrow : RowAt w vB m)
    (hB : ∀ wx, (Grown w wx fun k => OF p v k ∨ wv.ownBlock = some k) → RowAt wx vB m) (hX : X < 18446744073709551616) (hm : Byts m) (hb1 : l.length + m.length + 40 ≤ 140737488355328) (hb2 : wl.length + m.length + 40 ≤ 140737488355328) :
    Calls Try.prog 12 #[ptr p, wv, .agg #[.int .i64 0, .int .u64 (X : Int), .int .i64 N, vB]] w (LayedPost p v wv (l ++ [((X % 256 : Nat) : Int)]) (wl ++ [((X % 256 : Nat) : Int)]) w) := by
  have HO := Keep.mk hO
  have HR := Keep.mk hR
  have HSp := Keep.mk hs
  have HBs := Keep.mk hB
  have HX := Keep.mk hX
  have HM := Keep.mk hm
  have HB1 := Keep.mk hb1
  have HB2 := Keep.mk hb2
  have Hr0 := Keep.mk (hrow.below (below_new w (.cells #[.int .i64 0, .int .u64 (X : Int), .int .i64 N, vB] 43)))
  have hbx := Blk.new w 43 #[.int .i64 0, .int .u64 (X : Int), .int .i64 N, vB]
  clear hO hR hs hrow hB hX hm hb1 hb2
  obtain ⟨x8, hx8⟩ : ∃ x8, Keep (X % 256 = x8) := ⟨_, ⟨rfl⟩⟩
  have hxx : (X : Int) % 256 = (x8 : Int) := by have := hx8.out; omega
  rw [hx8.out]
  go_enter Try.func12, Try.ntmps12
  go_wp2_with (refine wpList_boxA rfl 43 (.tmp 2) rfl _ rfl ?_; refine Hid.out ?_)
  refine hid_in ?_
  obtain ⟨w0, hw0⟩ : ∃ w0, Keep (w0 = w.alloc (.cells #[.int .i64 0, .int .u64 (X : Int), .int .i64 N, vB] 43)) := ⟨_, ⟨rfl⟩⟩
  rw [← hw0.out] at hbx Hr0 ⊢
  have c3 : w0.cell? ⟨w.heap.size, 3, none⟩ = some vB := by rw [hbx.cell]; rfl
  clear hbx
  go_wp2_with fail
  refine (wide_any vB m w0 Hr0.out (by have := HB1.out; omega)).mono ?_
  rintro e w1 ⟨ow, rfl, hw, hg, hbl⟩
  rw [hw0.out] at hg hbl
  have hLT := LT.start HO.out HR.out HSp.out hw hg hbl
  obtain ⟨g, cap, rfl, _⟩ := hw.cap
  have HLT := Keep.mk hLT
  have c0 : w1.cell? ⟨w.heap.size, 0, none⟩ = some (.int .i64 0) := by rw [hLT.box.cell]; rfl
  have c1 : w1.cell? ⟨w.heap.size, 1, none⟩ = some (.int .u64 (X : Int)) := by rw [hLT.box.cell]; rfl
  have c3 : w1.cell? ⟨w.heap.size, 3, none⟩ = some vB := by rw [hLT.box.cell]; rfl
  clear hw hg hbl hLT hw0
  go_wp2_with fail
  refine (obyte_any p v l _ w1 HLT.out.out (by have := HB1.out; simp only [List.length_append, List.length_cons, List.length_nil]; omega)).mono ?_
  intro e w2 hpost
  obtain ⟨rfl, v2, hLT⟩ := HLT.out.outStep hpost
  have HLT2 := Keep.mk hLT
  have c1 : w2.cell? ⟨w.heap.size, 1, none⟩ = some (.int .u64 (X : Int)) := by rw [hLT.box.cell]; rfl
  have c3 : w2.cell? ⟨w.heap.size, 3, none⟩ = some vB := by rw [hLT.box.cell]; rfl
  clear hLT hpost HLT
  have HOx := Keep.mk (HLT2.out.row.box (.cells #[.int .u8 (x8 : Int)] 5))
  go_wp2_with (first | (at_builtin; refine wpList_app rfl (.tmp 21) (.tmp 25) rfl _ (.slice (some ⟨w2.heap.size, 0, none⟩) 1 1) wl [(x8 : Int)] rfl rfl HOx.out (row_one w2 _) (by have := HB2.out; simp only [List.length_cons, List.length_nil]; omega) ?_; intro wv3 w3 hp; refine Hid.out ?_))
  refine hid_in ?_
  obtain ⟨hq1, hq2, hq3⟩ := hp.box
  have HLT3 := Keep.mk (HLT2.out.rowStep hq1 hq2 hq3)
  clear hq1 hq2 hq3 hp HLT2 HOx
  have c3 : w3.cell? ⟨w.heap.size, 3, none⟩ = some vB := by rw [HLT3.out.box.cell]; rfl
  go_wp2_with fail
  refine (kept_any _ vB m w3 HLT3.out.wide (HLT3.out.bB HBs.out) (by have := HB1.out; omega)).mono ?_
  rintro e w4 ⟨rfl, hw4⟩
  rw [hw4]
  clear hw4 c3
  have hBy := HLT3.out.wide.bytes
  go_wp2
  go_loopw [98] (fun i wr => ∃ t : Nat, t ≤ m.length ∧ i = .int .i64 t ∧ BytesIn wr g m.length ∧ Grown w3 wr fun k => k = g) (fun i _ => m.length - (intOf i).toNat)
  case atStart => exact ⟨0, by omega, rfl, hBy, Grown.refl _ _⟩
  case round =>
    clear hBy
    obtain ⟨t, ht, rfl, hBy, hGr⟩ := hrel
    by_cases hlt : t < m.length
    · have hlt' : (t : Int) < (m.length : Int) := by omega
      obtain ⟨z, hz1, hz2⟩ := hBy.at hlt
      have hbnd : (m.length : Int) ≤ 140737488355328 := by have := HB1.out; omega
      have HBy := Keep.mk (hBy.set (t := t) (bits .xor .u8 z 255))
      have HGr := Keep.mk (hGr.trans (Grown.setCell wr g t (.int .u8 (bits .xor .u8 z 255)) (S := fun k => k = g) fun _ => rfl))
      clear hBy hGr
      go_wp2
      go_roundw
      case rel => exact ⟨t + 1, by omega, by go_num, HBy.out, HGr.out⟩
      case measure => simp only [intOf]; omega
    · obtain rfl : t = m.length := by omega
      have hlt' : ¬ ((m.length : Int) < (m.length : Int)) := by omega
      have HGr := Keep.mk hGr
      clear hBy hGr
      go_wp2
      go_ret
      have h := HLT3.out.done HGr.out
      exact h

set_option maxRecDepth 2000 in
set_option maxHeartbeats 1000000 in
theorem lay_num (p : Nat) (v wv vB : Value) (l wl m : List Int) (X : Nat) (N : Int) (w : World) (hO : OutAt w p v l) (hR : Own w wv wl) (hs : ∀ k, wv.ownBlock = some k → ¬ OF p v k) (hrow : RowAt w vB m)
    (hB : ∀ wx, (Grown w wx fun k => OF p v k ∨ wv.ownBlock = some k) → RowAt wx vB m) (hX : X < 18446744073709551616) (hm : Byts m) (hb1 : l.length + m.length + 40 ≤ 140737488355328) (hb2 : wl.length + m.length + 40 ≤ 140737488355328) :
    Calls Try.prog 12 #[ptr p, wv, .agg #[.int .i64 1, .int .u64 (X : Int), .int .i64 N, vB]] w (LayedPost p v wv (l ++ numL X) (wl ++ numL X) w) := by
  have HO := Keep.mk hO
  have HR := Keep.mk hR
  have HSp := Keep.mk hs
  have HBs := Keep.mk hB
  have HX := Keep.mk hX
  have HM := Keep.mk hm
  have HB1 := Keep.mk hb1
  have HB2 := Keep.mk hb2
  have Hr0 := Keep.mk (hrow.below (below_new w (.cells #[.int .i64 1, .int .u64 (X : Int), .int .i64 N, vB] 43)))
  have hbx := Blk.new w 43 #[.int .i64 1, .int .u64 (X : Int), .int .i64 N, vB]
  clear hO hR hs hrow hB hX hm hb1 hb2
  go_enter Try.func12, Try.ntmps12
  go_wp2_with (refine wpList_boxA rfl 43 (.tmp 2) rfl _ rfl ?_; refine Hid.out ?_)
  refine hid_in ?_
  obtain ⟨w0, hw0⟩ : ∃ w0, Keep (w0 = w.alloc (.cells #[.int .i64 1, .int .u64 (X : Int), .int .i64 N, vB] 43)) := ⟨_, ⟨rfl⟩⟩
  rw [← hw0.out] at hbx Hr0 ⊢
  have c3 : w0.cell? ⟨w.heap.size, 3, none⟩ = some vB := by rw [hbx.cell]; rfl
  clear hbx
  go_wp2_with fail
  refine (wide_any vB m w0 Hr0.out (by have := HB1.out; omega)).mono ?_
  rintro e w1 ⟨ow, rfl, hw, hg, hbl⟩
  rw [hw0.out] at hg hbl
  have hLT := LT.start HO.out HR.out HSp.out hw hg hbl
  obtain ⟨g, cap, rfl, _⟩ := hw.cap
  have HLT := Keep.mk hLT
  have c0 : w1.cell? ⟨w.heap.size, 0, none⟩ = some (.int .i64 1) := by rw [hLT.box.cell]; rfl
  have c1 : w1.cell? ⟨w.heap.size, 1, none⟩ = some (.int .u64 (X : Int)) := by rw [hLT.box.cell]; rfl
  have c3 : w1.cell? ⟨w.heap.size, 3, none⟩ = some vB := by rw [hLT.box.cell]; rfl
  clear hw hg hbl hLT hw0
  go_wp2_with fail
  refine (onum_any p v l X w1 HLT.out.out HX.out (by have := HB1.out; have := numL_len X; simp only [List.length_append]; omega)).mono ?_
  intro e w2 hpost
  obtain ⟨rfl, v2, hLT⟩ := HLT.out.outStep hpost
  have HLT2 := Keep.mk hLT
  have c1 : w2.cell? ⟨w.heap.size, 1, none⟩ = some (.int .u64 (X : Int)) := by rw [hLT.box.cell]; rfl
  have c3 : w2.cell? ⟨w.heap.size, 3, none⟩ = some vB := by rw [hLT.box.cell]; rfl
  clear hLT hpost HLT
  go_wp2_with fail
  refine (rnum_any wv wl X w2 HLT2.out.row HX.out (by have := HB2.out; have := numL_len X; omega)).mono ?_
  rintro e w3 ⟨wv3, rfl, hq1, hq2, hq3⟩
  have HLT3 := Keep.mk (HLT2.out.rowStep hq1 hq2 hq3)
  clear hq1 hq2 hq3 HLT2
  have c3 : w3.cell? ⟨w.heap.size, 3, none⟩ = some vB := by rw [HLT3.out.box.cell]; rfl
  go_wp2_with fail
  refine (kept_any _ vB m w3 HLT3.out.wide (HLT3.out.bB HBs.out) (by have := HB1.out; omega)).mono ?_
  rintro e w4 ⟨rfl, hw4⟩
  rw [hw4]
  clear hw4 c3
  have hBy := HLT3.out.wide.bytes
  go_wp2
  go_loopw [98] (fun i wr => ∃ t : Nat, t ≤ m.length ∧ i = .int .i64 t ∧ BytesIn wr g m.length ∧ Grown w3 wr fun k => k = g) (fun i _ => m.length - (intOf i).toNat)
  case atStart => exact ⟨0, by omega, rfl, hBy, Grown.refl _ _⟩
  case round =>
    clear hBy
    obtain ⟨t, ht, rfl, hBy, hGr⟩ := hrel
    by_cases hlt : t < m.length
    · have hlt' : (t : Int) < (m.length : Int) := by omega
      obtain ⟨z, hz1, hz2⟩ := hBy.at hlt
      have hbnd : (m.length : Int) ≤ 140737488355328 := by have := HB1.out; omega
      have HBy := Keep.mk (hBy.set (t := t) (bits .xor .u8 z 255))
      have HGr := Keep.mk (hGr.trans (Grown.setCell wr g t (.int .u8 (bits .xor .u8 z 255)) (S := fun k => k = g) fun _ => rfl))
      clear hBy hGr
      go_wp2
      go_roundw
      case rel => exact ⟨t + 1, by omega, by go_num, HBy.out, HGr.out⟩
      case measure => simp only [intOf]; omega
    · obtain rfl : t = m.length := by omega
      have hlt' : ¬ ((m.length : Int) < (m.length : Int)) := by omega
      have HGr := Keep.mk hGr
      clear hBy hGr
      go_wp2
      go_ret
      have h := HLT3.out.done HGr.out
      exact h

set_option maxRecDepth 2000 in
set_option maxHeartbeats 1000000 in
theorem lay_signed (p : Nat) (v wv vB : Value) (l wl m : List Int) (X : Nat) (N : Int) (w : World) (hO : OutAt w p v l) (hR : Own w wv wl) (hs : ∀ k, wv.ownBlock = some k → ¬ OF p v k) (hrow : RowAt w vB m)
    (hB : ∀ wx, (Grown w wx fun k => OF p v k ∨ wv.ownBlock = some k) → RowAt wx vB m) (hX : X < 18446744073709551616) (hm : Byts m) (hb1 : l.length + m.length + 40 ≤ 140737488355328) (hb2 : wl.length + m.length + 40 ≤ 140737488355328) :
    Calls Try.prog 12 #[ptr p, wv, .agg #[.int .i64 2, .int .u64 (X : Int), .int .i64 N, vB]] w (LayedPost p v wv (l ++ numL (zig (wrap64 (X : Int)))) (wl ++ numL (zig (wrap64 (X : Int)))) w) := by
  have HO := Keep.mk hO
  have HR := Keep.mk hR
  have HSp := Keep.mk hs
  have HBs := Keep.mk hB
  have HX := Keep.mk hX
  have HM := Keep.mk hm
  have HB1 := Keep.mk hb1
  have HB2 := Keep.mk hb2
  have Hr0 := Keep.mk (hrow.below (below_new w (.cells #[.int .i64 2, .int .u64 (X : Int), .int .i64 N, vB] 43)))
  have hbx := Blk.new w 43 #[.int .i64 2, .int .u64 (X : Int), .int .i64 N, vB]
  clear hO hR hs hrow hB hX hm hb1 hb2
  obtain ⟨xi, hxi⟩ : ∃ xi, Keep (wrap64 (X : Int) = xi) := ⟨_, ⟨rfl⟩⟩
  have hi1 : Keep (-9223372036854775808 ≤ xi) := ⟨by rw [← hxi.out]; unfold wrap64; omega⟩
  have hi2 : Keep (xi ≤ 9223372036854775807) := ⟨by rw [← hxi.out]; unfold wrap64; omega⟩
  rw [hxi.out]
  have hxw := hxi.out
  go_enter Try.func12, Try.ntmps12
  go_wp2_with (refine wpList_boxA rfl 43 (.tmp 2) rfl _ rfl ?_; refine Hid.out ?_)
  refine hid_in ?_
  obtain ⟨w0, hw0⟩ : ∃ w0, Keep (w0 = w.alloc (.cells #[.int .i64 2, .int .u64 (X : Int), .int .i64 N, vB] 43)) := ⟨_, ⟨rfl⟩⟩
  rw [← hw0.out] at hbx Hr0 ⊢
  have c3 : w0.cell? ⟨w.heap.size, 3, none⟩ = some vB := by rw [hbx.cell]; rfl
  clear hbx
  go_wp2_with fail
  refine (wide_any vB m w0 Hr0.out (by have := HB1.out; omega)).mono ?_
  rintro e w1 ⟨ow, rfl, hw, hg, hbl⟩
  rw [hw0.out] at hg hbl
  have hLT := LT.start HO.out HR.out HSp.out hw hg hbl
  obtain ⟨g, cap, rfl, _⟩ := hw.cap
  have HLT := Keep.mk hLT
  have c0 : w1.cell? ⟨w.heap.size, 0, none⟩ = some (.int .i64 2) := by rw [hLT.box.cell]; rfl
  have c1 : w1.cell? ⟨w.heap.size, 1, none⟩ = some (.int .u64 (X : Int)) := by rw [hLT.box.cell]; rfl
  have c3 : w1.cell? ⟨w.heap.size, 3, none⟩ = some vB := by rw [hLT.box.cell]; rfl
  clear hw hg hbl hLT hw0
  go_wp2_with fail
  refine (osigned_any p v l xi w1 HLT.out.out hi1.out hi2.out (by have := HB1.out; have := numL_len (zig xi); simp only [List.length_append]; omega)).mono ?_
  intro e w2 hpost
  obtain ⟨rfl, v2, hLT⟩ := HLT.out.outStep hpost
  have HLT2 := Keep.mk hLT
  have c1 : w2.cell? ⟨w.heap.size, 1, none⟩ = some (.int .u64 (X : Int)) := by rw [hLT.box.cell]; rfl
  have c3 : w2.cell? ⟨w.heap.size, 3, none⟩ = some vB := by rw [hLT.box.cell]; rfl
  clear hLT hpost HLT
  go_wp2_with fail
  refine (rzig_any xi w2 hi1.out hi2.out).mono ?_
  rintro e w2' ⟨rfl, hw2⟩
  rw [hw2]
  clear hw2
  go_wp2_with fail
  refine (rnum_any wv wl (zig xi) w2 HLT2.out.row (zig_lt xi hi1.out hi2.out) (by have := HB2.out; have := numL_len (zig xi); omega)).mono ?_
  rintro e w3 ⟨wv3, rfl, hq1, hq2, hq3⟩
  have HLT3 := Keep.mk (HLT2.out.rowStep hq1 hq2 hq3)
  clear hq1 hq2 hq3 HLT2
  have c3 : w3.cell? ⟨w.heap.size, 3, none⟩ = some vB := by rw [HLT3.out.box.cell]; rfl
  go_wp2_with fail
  refine (kept_any _ vB m w3 HLT3.out.wide (HLT3.out.bB HBs.out) (by have := HB1.out; omega)).mono ?_
  rintro e w4 ⟨rfl, hw4⟩
  rw [hw4]
  clear hw4 c3
  have hBy := HLT3.out.wide.bytes
  go_wp2
  go_loopw [98] (fun i wr => ∃ t : Nat, t ≤ m.length ∧ i = .int .i64 t ∧ BytesIn wr g m.length ∧ Grown w3 wr fun k => k = g) (fun i _ => m.length - (intOf i).toNat)
  case atStart => exact ⟨0, by omega, rfl, hBy, Grown.refl _ _⟩
  case round =>
    clear hBy
    obtain ⟨t, ht, rfl, hBy, hGr⟩ := hrel
    by_cases hlt : t < m.length
    · have hlt' : (t : Int) < (m.length : Int) := by omega
      obtain ⟨z, hz1, hz2⟩ := hBy.at hlt
      have hbnd : (m.length : Int) ≤ 140737488355328 := by have := HB1.out; omega
      have HBy := Keep.mk (hBy.set (t := t) (bits .xor .u8 z 255))
      have HGr := Keep.mk (hGr.trans (Grown.setCell wr g t (.int .u8 (bits .xor .u8 z 255)) (S := fun k => k = g) fun _ => rfl))
      clear hBy hGr
      go_wp2
      go_roundw
      case rel => exact ⟨t + 1, by omega, by go_num, HBy.out, HGr.out⟩
      case measure => simp only [intOf]; omega
    · obtain rfl : t = m.length := by omega
      have hlt' : ¬ ((m.length : Int) < (m.length : Int)) := by omega
      have HGr := Keep.mk hGr
      clear hBy hGr
      go_wp2
      go_ret
      have h := HLT3.out.done HGr.out
      exact h

set_option maxRecDepth 2000 in
set_option maxHeartbeats 1000000 in
theorem lay_raw (p : Nat) (v wv vB : Value) (l wl m : List Int) (X : Nat) (N : Int) (w : World) (hO : OutAt w p v l) (hR : Own w wv wl) (hs : ∀ k, wv.ownBlock = some k → ¬ OF p v k) (hrow : RowAt w vB m)
    (hB : ∀ wx, (Grown w wx fun k => OF p v k ∨ wv.ownBlock = some k) → RowAt wx vB m) (hX : X < 18446744073709551616) (hm : Byts m) (hb1 : l.length + m.length + 40 ≤ 140737488355328) (hb2 : wl.length + m.length + 40 ≤ 140737488355328) :
    Calls Try.prog 12 #[ptr p, wv, .agg #[.int .i64 3, .int .u64 (X : Int), .int .i64 N, vB]] w (LayedPost p v wv (l ++ m) (wl ++ m) w) := by
  have HO := Keep.mk hO
  have HR := Keep.mk hR
  have HSp := Keep.mk hs
  have HBs := Keep.mk hB
  have HX := Keep.mk hX
  have HM := Keep.mk hm
  have HB1 := Keep.mk hb1
  have HB2 := Keep.mk hb2
  have Hr0 := Keep.mk (hrow.below (below_new w (.cells #[.int .i64 3, .int .u64 (X : Int), .int .i64 N, vB] 43)))
  have hbx := Blk.new w 43 #[.int .i64 3, .int .u64 (X : Int), .int .i64 N, vB]
  clear hO hR hs hrow hB hX hm hb1 hb2
  go_enter Try.func12, Try.ntmps12
  go_wp2_with (refine wpList_boxA rfl 43 (.tmp 2) rfl _ rfl ?_; refine Hid.out ?_)
  refine hid_in ?_
  obtain ⟨w0, hw0⟩ : ∃ w0, Keep (w0 = w.alloc (.cells #[.int .i64 3, .int .u64 (X : Int), .int .i64 N, vB] 43)) := ⟨_, ⟨rfl⟩⟩
  rw [← hw0.out] at hbx Hr0 ⊢
  have c3 : w0.cell? ⟨w.heap.size, 3, none⟩ = some vB := by rw [hbx.cell]; rfl
  clear hbx
  go_wp2_with fail
  refine (wide_any vB m w0 Hr0.out (by have := HB1.out; omega)).mono ?_
  rintro e w1 ⟨ow, rfl, hw, hg, hbl⟩
  rw [hw0.out] at hg hbl
  have hLT := LT.start HO.out HR.out HSp.out hw hg hbl
  obtain ⟨g, cap, rfl, _⟩ := hw.cap
  have HLT := Keep.mk hLT
  have c0 : w1.cell? ⟨w.heap.size, 0, none⟩ = some (.int .i64 3) := by rw [hLT.box.cell]; rfl
  have c1 : w1.cell? ⟨w.heap.size, 1, none⟩ = some (.int .u64 (X : Int)) := by rw [hLT.box.cell]; rfl
  have c3 : w1.cell? ⟨w.heap.size, 3, none⟩ = some vB := by rw [hLT.box.cell]; rfl
  clear hw hg hbl hLT hw0
  go_wp2_with fail
  refine (oraw_any p v _ l m w1 HLT.out.out HLT.out.wide.row (by have := HB1.out; simp only [List.length_append]; omega)).mono ?_
  intro e w2 hpost
  obtain ⟨rfl, v2, hLT⟩ := HLT.out.outStep hpost
  have HLT2 := Keep.mk hLT
  have c1 : w2.cell? ⟨w.heap.size, 1, none⟩ = some (.int .u64 (X : Int)) := by rw [hLT.box.cell]; rfl
  have c3 : w2.cell? ⟨w.heap.size, 3, none⟩ = some vB := by rw [hLT.box.cell]; rfl
  clear hLT hpost HLT
  go_wp2_with (first | (at_builtin; refine wpList_app rfl (.tmp 55) (.tmp 57) rfl _ vB wl m rfl rfl HLT2.out.row (HLT2.out.bB HBs.out) (by have := HB2.out; omega) ?_; intro wv3 w3 hp; refine Hid.out ?_))
  refine hid_in ?_
  have HLT3 := Keep.mk (HLT2.out.rowStep hp.1 hp.moved hp.grown)
  clear hp HLT2
  have c3 : w3.cell? ⟨w.heap.size, 3, none⟩ = some vB := by rw [HLT3.out.box.cell]; rfl
  go_wp2_with fail
  refine (kept_any _ vB m w3 HLT3.out.wide (HLT3.out.bB HBs.out) (by have := HB1.out; omega)).mono ?_
  rintro e w4 ⟨rfl, hw4⟩
  rw [hw4]
  clear hw4 c3
  have hBy := HLT3.out.wide.bytes
  go_wp2
  go_loopw [98] (fun i wr => ∃ t : Nat, t ≤ m.length ∧ i = .int .i64 t ∧ BytesIn wr g m.length ∧ Grown w3 wr fun k => k = g) (fun i _ => m.length - (intOf i).toNat)
  case atStart => exact ⟨0, by omega, rfl, hBy, Grown.refl _ _⟩
  case round =>
    clear hBy
    obtain ⟨t, ht, rfl, hBy, hGr⟩ := hrel
    by_cases hlt : t < m.length
    · have hlt' : (t : Int) < (m.length : Int) := by omega
      obtain ⟨z, hz1, hz2⟩ := hBy.at hlt
      have hbnd : (m.length : Int) ≤ 140737488355328 := by have := HB1.out; omega
      have HBy := Keep.mk (hBy.set (t := t) (bits .xor .u8 z 255))
      have HGr := Keep.mk (hGr.trans (Grown.setCell wr g t (.int .u8 (bits .xor .u8 z 255)) (S := fun k => k = g) fun _ => rfl))
      clear hBy hGr
      go_wp2
      go_roundw
      case rel => exact ⟨t + 1, by omega, by go_num, HBy.out, HGr.out⟩
      case measure => simp only [intOf]; omega
    · obtain rfl : t = m.length := by omega
      have hlt' : ¬ ((m.length : Int) < (m.length : Int)) := by omega
      have HGr := Keep.mk hGr
      clear hBy hGr
      go_wp2
      go_ret
      have h := HLT3.out.done HGr.out
      exact h

set_option maxRecDepth 2000 in
set_option maxHeartbeats 1000000 in
theorem lay_bytes (p : Nat) (v wv vB : Value) (l wl m : List Int) (X : Nat) (N : Int) (w : World) (hO : OutAt w p v l) (hR : Own w wv wl) (hs : ∀ k, wv.ownBlock = some k → ¬ OF p v k) (hrow : RowAt w vB m)
    (hB : ∀ wx, (Grown w wx fun k => OF p v k ∨ wv.ownBlock = some k) → RowAt wx vB m) (hX : X < 18446744073709551616) (hm : Byts m) (hb1 : l.length + m.length + 40 ≤ 140737488355328) (hb2 : wl.length + m.length + 40 ≤ 140737488355328) :
    Calls Try.prog 12 #[ptr p, wv, .agg #[.int .i64 4, .int .u64 (X : Int), .int .i64 N, vB]] w (LayedPost p v wv (l ++ bform m) (wl ++ bform m) w) := by
  have HO := Keep.mk hO
  have HR := Keep.mk hR
  have HSp := Keep.mk hs
  have HBs := Keep.mk hB
  have HX := Keep.mk hX
  have HM := Keep.mk hm
  have HB1 := Keep.mk hb1
  have HB2 := Keep.mk hb2
  have Hr0 := Keep.mk (hrow.below (below_new w (.cells #[.int .i64 4, .int .u64 (X : Int), .int .i64 N, vB] 43)))
  have hbx := Blk.new w 43 #[.int .i64 4, .int .u64 (X : Int), .int .i64 N, vB]
  clear hO hR hs hrow hB hX hm hb1 hb2
  go_enter Try.func12, Try.ntmps12
  go_wp2_with (refine wpList_boxA rfl 43 (.tmp 2) rfl _ rfl ?_; refine Hid.out ?_)
  refine hid_in ?_
  obtain ⟨w0, hw0⟩ : ∃ w0, Keep (w0 = w.alloc (.cells #[.int .i64 4, .int .u64 (X : Int), .int .i64 N, vB] 43)) := ⟨_, ⟨rfl⟩⟩
  rw [← hw0.out] at hbx Hr0 ⊢
  have c3 : w0.cell? ⟨w.heap.size, 3, none⟩ = some vB := by rw [hbx.cell]; rfl
  clear hbx
  go_wp2_with fail
  refine (wide_any vB m w0 Hr0.out (by have := HB1.out; omega)).mono ?_
  rintro e w1 ⟨ow, rfl, hw, hg, hbl⟩
  rw [hw0.out] at hg hbl
  have hLT := LT.start HO.out HR.out HSp.out hw hg hbl
  obtain ⟨g, cap, rfl, _⟩ := hw.cap
  have HLT := Keep.mk hLT
  have c0 : w1.cell? ⟨w.heap.size, 0, none⟩ = some (.int .i64 4) := by rw [hLT.box.cell]; rfl
  have c1 : w1.cell? ⟨w.heap.size, 1, none⟩ = some (.int .u64 (X : Int)) := by rw [hLT.box.cell]; rfl
  have c3 : w1.cell? ⟨w.heap.size, 3, none⟩ = some vB := by rw [hLT.box.cell]; rfl
  clear hw hg hbl hLT hw0
  go_wp2_with fail
  refine (obytes_any p v _ l m w1 HLT.out.out HLT.out.wide.row (fun k hk => by obtain ⟨g0, e1, _, e2, _⟩ := HLT.out.og; rw [e1] at hk; injection hk with hk; subst hk; exact e2) (by have := HB1.out; have := numL_len m.length; simp only [bform, List.length_append]; omega)).mono ?_
  intro e w2 hpost
  obtain ⟨rfl, v2, hLT⟩ := HLT.out.outStep hpost
  have HLT2 := Keep.mk hLT
  have c1 : w2.cell? ⟨w.heap.size, 1, none⟩ = some (.int .u64 (X : Int)) := by rw [hLT.box.cell]; rfl
  have c3 : w2.cell? ⟨w.heap.size, 3, none⟩ = some vB := by rw [hLT.box.cell]; rfl
  clear hLT hpost HLT
  have HBsep : Keep (∀ wx, (Grown w2 wx fun k => wv.ownBlock = some k) → RowAt wx vB m) := ⟨fun wx hg => HBs.out wx (HLT2.out.gr.next hg fun _ _ e => .inr e)⟩
  go_wp2_with fail
  refine (rbytesS_any wv vB wl m w2 HLT2.out.row (HLT2.out.bB HBs.out) HBsep.out (by have := HB2.out; have := numL_len m.length; simp only [bform, List.length_append]; omega)).mono ?_
  rintro e w3 ⟨wv3, rfl, hq1, hq2, hq3⟩
  have HLT3 := Keep.mk (HLT2.out.rowStep hq1 hq2 hq3)
  clear hq1 hq2 hq3 HLT2
  have c3 : w3.cell? ⟨w.heap.size, 3, none⟩ = some vB := by rw [HLT3.out.box.cell]; rfl
  go_wp2_with fail
  refine (kept_any _ vB m w3 HLT3.out.wide (HLT3.out.bB HBs.out) (by have := HB1.out; omega)).mono ?_
  rintro e w4 ⟨rfl, hw4⟩
  rw [hw4]
  clear hw4 c3
  have hBy := HLT3.out.wide.bytes
  go_wp2
  go_loopw [98] (fun i wr => ∃ t : Nat, t ≤ m.length ∧ i = .int .i64 t ∧ BytesIn wr g m.length ∧ Grown w3 wr fun k => k = g) (fun i _ => m.length - (intOf i).toNat)
  case atStart => exact ⟨0, by omega, rfl, hBy, Grown.refl _ _⟩
  case round =>
    clear hBy
    obtain ⟨t, ht, rfl, hBy, hGr⟩ := hrel
    by_cases hlt : t < m.length
    · have hlt' : (t : Int) < (m.length : Int) := by omega
      obtain ⟨z, hz1, hz2⟩ := hBy.at hlt
      have hbnd : (m.length : Int) ≤ 140737488355328 := by have := HB1.out; omega
      have HBy := Keep.mk (hBy.set (t := t) (bits .xor .u8 z 255))
      have HGr := Keep.mk (hGr.trans (Grown.setCell wr g t (.int .u8 (bits .xor .u8 z 255)) (S := fun k => k = g) fun _ => rfl))
      clear hBy hGr
      go_wp2
      go_roundw
      case rel => exact ⟨t + 1, by omega, by go_num, HBy.out, HGr.out⟩
      case measure => simp only [intOf]; omega
    · obtain rfl : t = m.length := by omega
      have hlt' : ¬ ((m.length : Int) < (m.length : Int)) := by omega
      have HGr := Keep.mk hGr
      clear hBy hGr
      go_wp2
      go_ret
      have h := HLT3.out.done HGr.out
      exact h

set_option maxRecDepth 2000 in
set_option maxHeartbeats 1000000 in
theorem lay_text (p : Nat) (v wv vB : Value) (l wl m : List Int) (X : Nat) (N : Int) (w : World) (hO : OutAt w p v l) (hR : Own w wv wl) (hs : ∀ k, wv.ownBlock = some k → ¬ OF p v k) (hrow : RowAt w vB m)
    (hB : ∀ wx, (Grown w wx fun k => OF p v k ∨ wv.ownBlock = some k) → RowAt wx vB m) (hX : X < 18446744073709551616) (hm : Byts m) (hb1 : l.length + m.length + 40 ≤ 140737488355328) (hb2 : wl.length + m.length + 40 ≤ 140737488355328) :
    Calls Try.prog 12 #[ptr p, wv, .agg #[.int .i64 5, .int .u64 (X : Int), .int .i64 N, vB]] w (LayedPost p v wv (l ++ bform m) (wl ++ bform m) w) := by
  have HO := Keep.mk hO
  have HR := Keep.mk hR
  have HSp := Keep.mk hs
  have HBs := Keep.mk hB
  have HX := Keep.mk hX
  have HM := Keep.mk hm
  have HB1 := Keep.mk hb1
  have HB2 := Keep.mk hb2
  have Hr0 := Keep.mk (hrow.below (below_new w (.cells #[.int .i64 5, .int .u64 (X : Int), .int .i64 N, vB] 43)))
  have hbx := Blk.new w 43 #[.int .i64 5, .int .u64 (X : Int), .int .i64 N, vB]
  clear hO hR hs hrow hB hX hm hb1 hb2
  go_enter Try.func12, Try.ntmps12
  go_wp2_with (refine wpList_boxA rfl 43 (.tmp 2) rfl _ rfl ?_; refine Hid.out ?_)
  refine hid_in ?_
  obtain ⟨w0, hw0⟩ : ∃ w0, Keep (w0 = w.alloc (.cells #[.int .i64 5, .int .u64 (X : Int), .int .i64 N, vB] 43)) := ⟨_, ⟨rfl⟩⟩
  rw [← hw0.out] at hbx Hr0 ⊢
  have c3 : w0.cell? ⟨w.heap.size, 3, none⟩ = some vB := by rw [hbx.cell]; rfl
  clear hbx
  go_wp2_with fail
  refine (wide_any vB m w0 Hr0.out (by have := HB1.out; omega)).mono ?_
  rintro e w1 ⟨ow, rfl, hw, hg, hbl⟩
  rw [hw0.out] at hg hbl
  have hLT := LT.start HO.out HR.out HSp.out hw hg hbl
  obtain ⟨g, cap, rfl, _⟩ := hw.cap
  have HLT := Keep.mk hLT
  have c0 : w1.cell? ⟨w.heap.size, 0, none⟩ = some (.int .i64 5) := by rw [hLT.box.cell]; rfl
  have c1 : w1.cell? ⟨w.heap.size, 1, none⟩ = some (.int .u64 (X : Int)) := by rw [hLT.box.cell]; rfl
  have c3 : w1.cell? ⟨w.heap.size, 3, none⟩ = some vB := by rw [hLT.box.cell]; rfl
  clear hw hg hbl hLT hw0
  have hcv := conv_row vB m w1 (HLT.out.bB HBs.out)
  obtain ⟨st, hst⟩ : ∃ st, Keep (st = strOfNums m) := ⟨_, ⟨rfl⟩⟩
  rw [← hst.out] at hcv
  have Hls : Keep (lst st = m) := ⟨by rw [hst.out]; exact lst_nums HM.out⟩
  go_wp2_with fail
  refine (otext_any p v l st w1 HLT.out.out (by rw [Hls.out]; have := HB1.out; have := numL_len m.length; simp only [bform, List.length_append]; omega)).mono ?_
  intro e w2 hpost
  rw [Hls.out] at hpost
  obtain ⟨rfl, v2, hLT⟩ := HLT.out.outStep hpost
  have HLT2 := Keep.mk hLT
  have c1 : w2.cell? ⟨w.heap.size, 1, none⟩ = some (.int .u64 (X : Int)) := by rw [hLT.box.cell]; rfl
  have c3 : w2.cell? ⟨w.heap.size, 3, none⟩ = some vB := by rw [hLT.box.cell]; rfl
  clear hLT hpost HLT
  have HBsep : Keep (∀ wx, (Grown w2 wx fun k => wv.ownBlock = some k) → RowAt wx vB m) := ⟨fun wx hg => HBs.out wx (HLT2.out.gr.next hg fun _ _ e => .inr e)⟩
  go_wp2_with fail
  refine (rbytesS_any wv vB wl m w2 HLT2.out.row (HLT2.out.bB HBs.out) HBsep.out (by have := HB2.out; have := numL_len m.length; simp only [bform, List.length_append]; omega)).mono ?_
  rintro e w3 ⟨wv3, rfl, hq1, hq2, hq3⟩
  have HLT3 := Keep.mk (HLT2.out.rowStep hq1 hq2 hq3)
  clear hq1 hq2 hq3 HLT2
  have c3 : w3.cell? ⟨w.heap.size, 3, none⟩ = some vB := by rw [HLT3.out.box.cell]; rfl
  go_wp2_with fail
  refine (kept_any _ vB m w3 HLT3.out.wide (HLT3.out.bB HBs.out) (by have := HB1.out; omega)).mono ?_
  rintro e w4 ⟨rfl, hw4⟩
  rw [hw4]
  clear hw4 c3
  have hBy := HLT3.out.wide.bytes
  go_wp2
  go_loopw [98] (fun i wr => ∃ t : Nat, t ≤ m.length ∧ i = .int .i64 t ∧ BytesIn wr g m.length ∧ Grown w3 wr fun k => k = g) (fun i _ => m.length - (intOf i).toNat)
  case atStart => exact ⟨0, by omega, rfl, hBy, Grown.refl _ _⟩
  case round =>
    clear hBy
    obtain ⟨t, ht, rfl, hBy, hGr⟩ := hrel
    by_cases hlt : t < m.length
    · have hlt' : (t : Int) < (m.length : Int) := by omega
      obtain ⟨z, hz1, hz2⟩ := hBy.at hlt
      have hbnd : (m.length : Int) ≤ 140737488355328 := by have := HB1.out; omega
      have HBy := Keep.mk (hBy.set (t := t) (bits .xor .u8 z 255))
      have HGr := Keep.mk (hGr.trans (Grown.setCell wr g t (.int .u8 (bits .xor .u8 z 255)) (S := fun k => k = g) fun _ => rfl))
      clear hBy hGr
      go_wp2
      go_roundw
      case rel => exact ⟨t + 1, by omega, by go_num, HBy.out, HGr.out⟩
      case measure => simp only [intOf]; omega
    · obtain rfl : t = m.length := by omega
      have hlt' : ¬ ((m.length : Int) < (m.length : Int)) := by omega
      have HGr := Keep.mk hGr
      clear hBy hGr
      go_wp2
      go_ret
      have h := HLT3.out.done HGr.out
      exact h

set_option maxRecDepth 2000 in
set_option maxHeartbeats 1000000 in
theorem lay_hash (p : Nat) (v wv vB : Value) (l wl m : List Int) (X : Nat) (N : Int) (w : World) (hO : OutAt w p v l) (hR : Own w wv wl) (hs : ∀ k, wv.ownBlock = some k → ¬ OF p v k) (hrow : RowAt w vB m)
    (hB : ∀ wx, (Grown w wx fun k => OF p v k ∨ wv.ownBlock = some k) → RowAt wx vB m) (hX : X < 18446744073709551616) (hm : Byts m) (hb1 : l.length + m.length + 40 ≤ 140737488355328) (hb2 : wl.length + m.length + 40 ≤ 140737488355328) :
    Calls Try.prog 12 #[ptr p, wv, .agg #[.int .i64 6, .int .u64 (X : Int), .int .i64 N, vB]] w (LayedPost p v wv (l ++ hl 32 (hof m)) (wl ++ hl 32 (hof m)) w) := by
  have HO := Keep.mk hO
  have HR := Keep.mk hR
  have HSp := Keep.mk hs
  have HBs := Keep.mk hB
  have HX := Keep.mk hX
  have HM := Keep.mk hm
  have HB1 := Keep.mk hb1
  have HB2 := Keep.mk hb2
  have Hr0 := Keep.mk (hrow.below (below_new w (.cells #[.int .i64 6, .int .u64 (X : Int), .int .i64 N, vB] 43)))
  have hbx := Blk.new w 43 #[.int .i64 6, .int .u64 (X : Int), .int .i64 N, vB]
  clear hO hR hs hrow hB hX hm hb1 hb2
  go_enter Try.func12, Try.ntmps12
  go_wp2_with (refine wpList_boxA rfl 43 (.tmp 2) rfl _ rfl ?_; refine Hid.out ?_)
  refine hid_in ?_
  obtain ⟨w0, hw0⟩ : ∃ w0, Keep (w0 = w.alloc (.cells #[.int .i64 6, .int .u64 (X : Int), .int .i64 N, vB] 43)) := ⟨_, ⟨rfl⟩⟩
  rw [← hw0.out] at hbx Hr0 ⊢
  have c3 : w0.cell? ⟨w.heap.size, 3, none⟩ = some vB := by rw [hbx.cell]; rfl
  clear hbx
  go_wp2_with fail
  refine (wide_any vB m w0 Hr0.out (by have := HB1.out; omega)).mono ?_
  rintro e w1 ⟨ow, rfl, hw, hg, hbl⟩
  rw [hw0.out] at hg hbl
  have hLT := LT.start HO.out HR.out HSp.out hw hg hbl
  obtain ⟨g, cap, rfl, _⟩ := hw.cap
  have HLT := Keep.mk hLT
  have c0 : w1.cell? ⟨w.heap.size, 0, none⟩ = some (.int .i64 6) := by rw [hLT.box.cell]; rfl
  have c1 : w1.cell? ⟨w.heap.size, 1, none⟩ = some (.int .u64 (X : Int)) := by rw [hLT.box.cell]; rfl
  have c3 : w1.cell? ⟨w.heap.size, 3, none⟩ = some vB := by rw [hLT.box.cell]; rfl
  clear hw hg hbl hLT hw0
  go_wp2_with fail
  refine (hashOf_any vB m w1 (HLT.out.bB HBs.out) (by have := HB1.out; omega)).mono ?_
  rintro e w1' ⟨rfl, hb1'⟩
  have HLTa := Keep.mk (HLT.out.below hb1')
  clear HLT hb1' c0 c1 c3
  have HLT := HLTa
  have c1 : w1'.cell? ⟨w.heap.size, 1, none⟩ = some (.int .u64 (X : Int)) := by rw [HLT.out.box.cell]; rfl
  have c3 : w1'.cell? ⟨w.heap.size, 3, none⟩ = some vB := by rw [HLT.out.box.cell]; rfl
  go_wp2_with fail
  refine (ohash_any p v l (hof m) w1' HLT.out.out (by have := HB1.out; omega)).mono ?_
  intro e w2 hpost
  obtain ⟨rfl, v2, hLT⟩ := HLT.out.outStep hpost
  have HLT2 := Keep.mk hLT
  have c1 : w2.cell? ⟨w.heap.size, 1, none⟩ = some (.int .u64 (X : Int)) := by rw [hLT.box.cell]; rfl
  have c3 : w2.cell? ⟨w.heap.size, 3, none⟩ = some vB := by rw [hLT.box.cell]; rfl
  clear hLT hpost HLT
  go_wp2_with fail
  refine (hashOf_any vB m w2 (HLT2.out.bB HBs.out) (by have := HB1.out; omega)).mono ?_
  rintro e w2' ⟨rfl, hb2'⟩
  have HLTb := Keep.mk (HLT2.out.below hb2')
  clear HLT2 hb2' c1 c3
  have HLT2 := HLTb
  go_wp2_with fail
  refine (rhash_any wv wl (hof m) w2' HLT2.out.row (by have := HB2.out; omega)).mono ?_
  rintro e w3 ⟨wv3, rfl, hq1, hq2, hq3⟩
  have HLT3 := Keep.mk (HLT2.out.rowStep hq1 hq2 hq3)
  clear hq1 hq2 hq3 HLT2
  have c3 : w3.cell? ⟨w.heap.size, 3, none⟩ = some vB := by rw [HLT3.out.box.cell]; rfl
  go_wp2_with fail
  refine (kept_any _ vB m w3 HLT3.out.wide (HLT3.out.bB HBs.out) (by have := HB1.out; omega)).mono ?_
  rintro e w4 ⟨rfl, hw4⟩
  rw [hw4]
  clear hw4 c3
  have hBy := HLT3.out.wide.bytes
  go_wp2
  go_loopw [98] (fun i wr => ∃ t : Nat, t ≤ m.length ∧ i = .int .i64 t ∧ BytesIn wr g m.length ∧ Grown w3 wr fun k => k = g) (fun i _ => m.length - (intOf i).toNat)
  case atStart => exact ⟨0, by omega, rfl, hBy, Grown.refl _ _⟩
  case round =>
    clear hBy
    obtain ⟨t, ht, rfl, hBy, hGr⟩ := hrel
    by_cases hlt : t < m.length
    · have hlt' : (t : Int) < (m.length : Int) := by omega
      obtain ⟨z, hz1, hz2⟩ := hBy.at hlt
      have hbnd : (m.length : Int) ≤ 140737488355328 := by have := HB1.out; omega
      have HBy := Keep.mk (hBy.set (t := t) (bits .xor .u8 z 255))
      have HGr := Keep.mk (hGr.trans (Grown.setCell wr g t (.int .u8 (bits .xor .u8 z 255)) (S := fun k => k = g) fun _ => rfl))
      clear hBy hGr
      go_wp2
      go_roundw
      case rel => exact ⟨t + 1, by omega, by go_num, HBy.out, HGr.out⟩
      case measure => simp only [intOf]; omega
    · obtain rfl : t = m.length := by omega
      have hlt' : ¬ ((m.length : Int) < (m.length : Int)) := by omega
      have HGr := Keep.mk hGr
      clear hBy hGr
      go_wp2
      go_ret
      have h := HLT3.out.done HGr.out
      exact h

set_option maxRecDepth 2000 in
set_option maxHeartbeats 1000000 in
theorem lay_other (p : Nat) (v wv vB : Value) (l wl m : List Int) (K : Int) (X : Nat) (N : Int) (w : World) (hO : OutAt w p v l) (hR : Own w wv wl) (hs : ∀ k, wv.ownBlock = some k → ¬ OF p v k) (hrow : RowAt w vB m)
    (hB : ∀ wx, (Grown w wx fun k => OF p v k ∨ wv.ownBlock = some k) → RowAt wx vB m) (hX : X < 18446744073709551616) (hm : Byts m) (hb1 : l.length + m.length + 40 ≤ 140737488355328) (hb2 : wl.length + m.length + 40 ≤ 140737488355328) (k0 : (K == 0) = false) (k1 : (K == 1) = false) (k2 : (K == 2) = false) (k3 : (K == 3) = false) (k4 : (K == 4) = false) (k5 : (K == 5) = false) (k6 : (K == 6) = false) :
    Calls Try.prog 12 #[ptr p, wv, .agg #[.int .i64 K, .int .u64 (X : Int), .int .i64 N, vB]] w (LayedPost p v wv (l ++ ([] : List Int)) (wl ++ ([] : List Int)) w) := by
  have HO := Keep.mk hO
  have HR := Keep.mk hR
  have HSp := Keep.mk hs
  have HBs := Keep.mk hB
  have HX := Keep.mk hX
  have HM := Keep.mk hm
  have HB1 := Keep.mk hb1
  have HB2 := Keep.mk hb2
  have Hr0 := Keep.mk (hrow.below (below_new w (.cells #[.int .i64 K, .int .u64 (X : Int), .int .i64 N, vB] 43)))
  have hbx := Blk.new w 43 #[.int .i64 K, .int .u64 (X : Int), .int .i64 N, vB]
  clear hO hR hs hrow hB hX hm hb1 hb2
  go_enter Try.func12, Try.ntmps12
  go_wp2_with (refine wpList_boxA rfl 43 (.tmp 2) rfl _ rfl ?_; refine Hid.out ?_)
  refine hid_in ?_
  obtain ⟨w0, hw0⟩ : ∃ w0, Keep (w0 = w.alloc (.cells #[.int .i64 K, .int .u64 (X : Int), .int .i64 N, vB] 43)) := ⟨_, ⟨rfl⟩⟩
  rw [← hw0.out] at hbx Hr0 ⊢
  have c3 : w0.cell? ⟨w.heap.size, 3, none⟩ = some vB := by rw [hbx.cell]; rfl
  clear hbx
  go_wp2_with fail
  refine (wide_any vB m w0 Hr0.out (by have := HB1.out; omega)).mono ?_
  rintro e w1 ⟨ow, rfl, hw, hg, hbl⟩
  rw [hw0.out] at hg hbl
  have hLT := LT.start HO.out HR.out HSp.out hw hg hbl
  obtain ⟨g, cap, rfl, _⟩ := hw.cap
  have HLT := Keep.mk hLT
  have c0 : w1.cell? ⟨w.heap.size, 0, none⟩ = some (.int .i64 K) := by rw [hLT.box.cell]; rfl
  have c1 : w1.cell? ⟨w.heap.size, 1, none⟩ = some (.int .u64 (X : Int)) := by rw [hLT.box.cell]; rfl
  have c3 : w1.cell? ⟨w.heap.size, 3, none⟩ = some vB := by rw [hLT.box.cell]; rfl
  clear hw hg hbl hLT hw0
  have HLT3 : Keep (LT w p v wv (.slice (some ⟨g, 0, none⟩) m.length cap) m #[.int .i64 K, .int .u64 (X : Int), .int .i64 N, vB] (l ++ []) (wl ++ []) v wv w1) := ⟨by simpa using HLT.out⟩
  obtain ⟨w3, rfl⟩ : ∃ w3, w3 = w1 := ⟨_, rfl⟩
  clear HLT
  have c3 : w3.cell? ⟨w.heap.size, 3, none⟩ = some vB := by rw [HLT3.out.box.cell]; rfl
  go_wp2_with fail
  refine (kept_any _ vB m w3 HLT3.out.wide (HLT3.out.bB HBs.out) (by have := HB1.out; omega)).mono ?_
  rintro e w4 ⟨rfl, hw4⟩
  rw [hw4]
  clear hw4 c3
  have hBy := HLT3.out.wide.bytes
  go_wp2
  go_loopw [98] (fun i wr => ∃ t : Nat, t ≤ m.length ∧ i = .int .i64 t ∧ BytesIn wr g m.length ∧ Grown w3 wr fun k => k = g) (fun i _ => m.length - (intOf i).toNat)
  case atStart => exact ⟨0, by omega, rfl, hBy, Grown.refl _ _⟩
  case round =>
    clear hBy
    obtain ⟨t, ht, rfl, hBy, hGr⟩ := hrel
    by_cases hlt : t < m.length
    · have hlt' : (t : Int) < (m.length : Int) := by omega
      obtain ⟨z, hz1, hz2⟩ := hBy.at hlt
      have hbnd : (m.length : Int) ≤ 140737488355328 := by have := HB1.out; omega
      have HBy := Keep.mk (hBy.set (t := t) (bits .xor .u8 z 255))
      have HGr := Keep.mk (hGr.trans (Grown.setCell wr g t (.int .u8 (bits .xor .u8 z 255)) (S := fun k => k = g) fun _ => rfl))
      clear hBy hGr
      go_wp2
      go_roundw
      case rel => exact ⟨t + 1, by omega, by go_num, HBy.out, HGr.out⟩
      case measure => simp only [intOf]; omega
    · obtain rfl : t = m.length := by omega
      have hlt' : ¬ ((m.length : Int) < (m.length : Int)) := by omega
      have HGr := Keep.mk hGr
      clear hBy hGr
      go_wp2
      go_ret
      have h := HLT3.out.done HGr.out
      simpa using h

theorem lay_any (p : Nat) (v wv vB : Value) (l wl m : List Int) (K : Int) (X : Nat) (N : Int) (w : World) (hO : OutAt w p v l) (hR : Own w wv wl) (hs : ∀ k, wv.ownBlock = some k → ¬ OF p v k) (hrow : RowAt w vB m)
    (hB : ∀ wx, (Grown w wx fun k => OF p v k ∨ wv.ownBlock = some k) → RowAt wx vB m) (hX : X < 18446744073709551616) (hm : Byts m) (hb1 : l.length + m.length + 40 ≤ 140737488355328) (hb2 : wl.length + m.length + 40 ≤ 140737488355328) :
    Calls Try.prog 12 #[ptr p, wv, .agg #[.int .i64 K, .int .u64 (X : Int), .int .i64 N, vB]] w (LayedPost p v wv (l ++ frm K X m) (wl ++ frm K X m) w) := by
  by_cases k0 : K = 0
  · subst k0; rw [frm_0]; exact lay_byte p v wv vB l wl m X N w hO hR hs hrow hB hX hm hb1 hb2
  by_cases k1 : K = 1
  · subst k1; rw [frm_1]; exact lay_num p v wv vB l wl m X N w hO hR hs hrow hB hX hm hb1 hb2
  by_cases k2 : K = 2
  · subst k2; rw [frm_2]; exact lay_signed p v wv vB l wl m X N w hO hR hs hrow hB hX hm hb1 hb2
  by_cases k3 : K = 3
  · subst k3; rw [frm_3]; exact lay_raw p v wv vB l wl m X N w hO hR hs hrow hB hX hm hb1 hb2
  by_cases k4 : K = 4
  · subst k4; rw [frm_4]; exact lay_bytes p v wv vB l wl m X N w hO hR hs hrow hB hX hm hb1 hb2
  by_cases k5 : K = 5
  · subst k5; rw [frm_5]; exact lay_text p v wv vB l wl m X N w hO hR hs hrow hB hX hm hb1 hb2
  by_cases k6 : K = 6
  · subst k6; rw [frm_6]; exact lay_hash p v wv vB l wl m X N w hO hR hs hrow hB hX hm hb1 hb2
  rw [frm_n K X m k0 k1 k2 k3 k4 k5 k6]
  exact lay_other p v wv vB l wl m K X N w hO hR hs hrow hB hX hm hb1 hb2 (by simpa using k0) (by simpa using k1) (by simpa using k2) (by simpa using k3) (by simpa using k4) (by simpa using k5) (by simpa using k6)
end Go.Proofs.Ytanmbbckkfkhpaa
