import Derived.Test.YtjklmkeedhgncaaA22
import Derived.Test.YtjklmkeedhgncaaA23
import Derived.Test.YtjklmkeedhgncaaRows
import Derived.Test.YtjklmkeedhgncaaA04
import Derived.Test.YtjklmkeedhgncaaA18
import Derived.Test.YtjklmkeedhgncaaA10
import Derived.Test.YtjklmkeedhgncaaA09
import Derived.ProofKit
import Derived.OpenShut
import Derived.ShutString
import Derived.ChangeOld
import Derived.Below
import Derived.SizedLaws
import Derived.Deep.Slices
import Derived.Deep.Strs
namespace Go.Proofs.Ytjklmkeedhgncaa
open Go.RowKit
set_option linter.unusedSimpArgs false
set_option linter.unusedVariables false
theorem ask_rng {w : World} {x : Nat} {la ua : Option Addr} {m cap ul uc : Nat} {kind un : Int} {key : ByteArray} (h : Blk w x 46 #[.slice la m cap, .int .i64 kind, .string key, .int .i64 un, .slice ua ul uc]) : w.rangeAt x 3 (wtA un (.slice ua ul uc)).toList := fun j u hu => by
 match j, hu with
 | 0, hu => exact h.c 3 hu
 | 1, hu => exact h.c 4 hu
 | j + 2, hu => simp [wtA] at hu
set_option maxRecDepth 8000 in
theorem true_bad (la : Option Addr) (m cap : Nat) (ua : Option Addr) (ul uc : Nat) (L : List CV) (ls : List LV) (kind un : Int) (key : ByteArray) (at_ : Nat) (hh : Array Value) (w : World) (HC : Keep (CsV w.heap.size w (.slice la m cap) L)) (HL : Keep (LsV w.heap.size w (.slice ua ul uc) ls)) (HS : Keep (Sml L)) (HN : Keep (L.length ≤ 1099511627776)) (hhe : Keep (hh = bytesA 32 (rootF L))) (er : Int) (hwi : Keep (wrongI L = er)) (her : (er != 0) = true) :
  Calls Try.prog 7 #[.agg #[.slice la m cap, .int .i64 kind, .string key, .int .i64 un, .slice ua ul uc]] w fun e w' => e = .returned (.bool true) ∧ Below w.heap.size w w' := by
 go_enter Try.func7, Try.ntmps7
 refine wp_seq_k fun K1 hK1 => rgn ?_
 refine WL.box (by kernel_rfl) 46 (.tmp 0) rfl #[.slice la m cap, .int .i64 kind, .string key, .int .i64 un, .slice ua ul uc] rfl ?_
 have X1 := Keep.mk (Blk.new w 46 #[.slice la m cap, .int .i64 kind, .string key, .int .i64 un, .slice ua ul uc])
 have b_ := below_new w (.cells #[.slice la m cap, .int .i64 kind, .string key, .int .i64 un, .slice ua ul uc] 46)
 change WL _ _ _ _ _ (w.alloc (.cells #[.slice la m cap, .int .i64 kind, .string key, .int .i64 un, .slice ua ul uc] 46))
 generalize w.alloc (.cells #[.slice la m cap, .int .i64 kind, .string key, .int .i64 un, .slice ua ul uc] 46) = w1 at *
 obtain ⟨x, hx0⟩ : ∃ z, Keep (z = w.heap.size) := ⟨_, ⟨rfl⟩⟩
 rw [← hx0.out] at X1 ⊢
 have B1 : Keep (Below w.heap.size w w1) := ⟨b_⟩
 have gx : Keep (w.heap.size ≤ x) := ⟨by rw [hx0.out]; exact Nat.le_refl _⟩
 clear b_
 simp only [Act.put, pqA, pqB, pqC]
 refine VbF ?_
 refine WL.nil (hK1 _ _ ?_)
 refine wp_seq_k fun K2 hK2 => rgn ?_
 refine VlS (.pointer (some ⟨x, 0, none⟩)) ?_
 have m_ : w1.cell? ⟨x, 0, none⟩ = some (.slice la m cap) := X1.out.c 0 rfl
 refine WL.val (by kernel_rfl) (.slice la m cap) (by go_simp) ?_
 clear m_
 simp only [Act.put, pqA, pqB, pqC]
 refine WL.callF (by kernel_rfl) 10 _ _ rfl Try.in10 #[.slice la m cap] (by simp [Act.eval]) ?_
 refine (pRoot_any _ L w1 ((HC.out.below B1.out).mono B1.out.size) HS.out HN.out).mono ?_
 rintro e w2 ⟨rfl, k1⟩
 refine ⟨_, rfl, ?_⟩
 rw [← hhe.out, hwi.out]
 have X2 := Keep.mk (X1.out.below k1 X1.out.lt)
 have B2 : Keep (Below w.heap.size w w2) := ⟨B1.out.trans (k1.mono B1.out.size)⟩
 clear k1
 simp only [Act.put, pqA, pqB, pqC]
 refine VlS (.tuple #[.agg hh, .int .i64 er]) ?_
 refine VlS (.agg hh) ?_
 refine VlS (.int .i64 er) ?_
 refine WL.new (by kernel_rfl) 25 rfl _ Try.new25 ?_
 have A3 := Keep.mk (Blk.new w2 25 (bytesA 32 fun _ => 0))
 have b_ := below_new w2 (.cells (bytesA 32 fun _ => 0) 25)
 change WL _ _ _ _ _ (w2.alloc (.cells (bytesA 32 fun _ => 0) 25))
 generalize w2.alloc (.cells (bytesA 32 fun _ => 0) 25) = w3 at *
 obtain ⟨a, ha0⟩ : ∃ z, Keep (z = w2.heap.size) := ⟨_, ⟨rfl⟩⟩
 rw [← ha0.out] at A3 ⊢
 have X3 := Keep.mk (X2.out.below b_ X2.out.lt)
 have B3 : Keep (Below w.heap.size w w3) := ⟨B2.out.trans (b_.mono B2.out.size)⟩
 have ga : Keep (w.heap.size ≤ a) := ⟨by rw [ha0.out]; exact B2.out.size⟩
 clear b_
 have nxa : Keep (x ≠ a) := ⟨by have := X2.out.lt; have := ha0.out; omega⟩
 simp only [Act.put, pqA, pqB, pqC]
 refine WL.storeR (by kernel_rfl) 25 (.tmp 3) (.tmp 16) rfl a hh rfl rfl 25 (bytesA 32 fun _ => 0) A3.out (by rw [hhe.out]; exact Try.size25B _) (by rw [hhe.out]; exact bytesA_sizes _ _ _) (by rw [hhe.out]; exact bytesA_one _ _) ?_
 have A4 := Keep.mk (A3.out.setRow hh)
 have B4 : Keep (Below w.heap.size w (w3.setRow a hh)) := ⟨below_setRow B3.out ga.out _⟩
 have X4 := Keep.mk (X3.out.setRow_ne nxa.out hh)
 generalize w3.setRow a hh = w4 at *
 simp only [Act.put]
 refine VlS (.int .i64 er) ?_
 refine WL.nil (hK2 _ _ ?_)
 refine wp_seq_k fun K3 hK3 => ?_
 refine wp_seq_k fun K4 hK4 => rgn ?_
 refine VlS (.int .i64 er) ?_
 refine VbT ?_
 refine WL.nil (hK4 _ _ ?_)
 refine wp_cond_true rfl ?_
 refine wp_seq_k fun K5 hK5 => rgn ?_
 refine VlS (.pointer (some ⟨x, 0, none⟩)) ?_
 have m_ : w4.cell? ⟨x, 0, none⟩ = some (.slice la m cap) := X4.out.c 0 rfl
 refine WL.val (by kernel_rfl) (.slice la m cap) (by go_simp) ?_
 clear m_
 simp only [Act.put, pqA, pqB, pqC]
 refine WL.callF (by kernel_rfl) 18 _ _ rfl Try.in18 #[.slice la m cap] (by simp [Act.eval]) ?_
 refine (wrong_any w.heap.size _ L w4 (HC.out.below B4.out) B4.out.size (by have := HN.out; omega)).mono ?_
 rintro e w5 ⟨rfl, k1⟩
 refine ⟨_, rfl, ?_⟩
 rw [hwi.out]
 have X5 := Keep.mk (X4.out.below k1 X4.out.lt)
 have A5 := Keep.mk (A4.out.below k1 A4.out.lt)
 have B5 : Keep (Below w.heap.size w w5) := ⟨B4.out.trans (k1.mono B4.out.size)⟩
 clear k1
 simp only [Act.put, pqA, pqB, pqC]
 refine VbT ?_
 refine VbT ?_
 refine WL.callF (by kernel_rfl) 9 _ _ rfl Try.in9 #[] (by simp) ?_
 refine (fixed_any w5).mono ?_
 rintro e w6 ⟨rfl, k1⟩
 refine ⟨_, rfl, ?_⟩
 have B6 : Keep (Below w.heap.size w w6) := ⟨B5.out.trans (k1.mono B5.out.size)⟩
 clear k1
 simp only [Act.put, pqA, pqB, pqC]
 refine VbT ?_
 refine VbT ?_
 refine WL.nil (hK5 _ _ ?_)
 refine wp_ret ?_
 go_ret
 exact ⟨rfl, B6.out⟩
set_option maxRecDepth 8000 in
set_option maxHeartbeats 1000000 in
theorem true_no (la : Option Addr) (m cap : Nat) (ua : Option Addr) (ul uc : Nat) (L : List CV) (ls : List LV) (kind un : Int) (key : ByteArray) (at_ : Nat) (hh : Array Value) (w : World) (HC : Keep (CsV w.heap.size w (.slice la m cap) L)) (HL : Keep (LsV w.heap.size w (.slice ua ul uc) ls)) (HS : Keep (Sml L)) (HN : Keep (L.length ≤ 1099511627776)) (hhe : Keep (hh = bytesA 32 (rootF L))) (root : Hs) (hwi : Keep (wrongI L = 0)) (hhe2 : Keep (hh = bytesA 32 root.f)) (Hun : Keep (un < 9223372036854775808)) (HSl : Keep (SmL ls)) (ce : Int) (ci : Bool) (hce : Keep (chkE root un kind key ls = ce)) (hci : Keep (chkI root un kind key ls = ci)) (hce0 : ¬ ce = 0) (hce1 : (ce != 0) = true) :
  Calls Try.prog 7 #[.agg #[.slice la m cap, .int .i64 kind, .string key, .int .i64 un, .slice ua ul uc]] w fun e w' => e = .returned (.bool true) ∧ Below w.heap.size w w' := by
 go_enter Try.func7, Try.ntmps7
 refine wp_seq_k fun K1 hK1 => rgn ?_
 refine WL.box (by kernel_rfl) 46 (.tmp 0) rfl #[.slice la m cap, .int .i64 kind, .string key, .int .i64 un, .slice ua ul uc] rfl ?_
 have X1 := Keep.mk (Blk.new w 46 #[.slice la m cap, .int .i64 kind, .string key, .int .i64 un, .slice ua ul uc])
 have b_ := below_new w (.cells #[.slice la m cap, .int .i64 kind, .string key, .int .i64 un, .slice ua ul uc] 46)
 change WL _ _ _ _ _ (w.alloc (.cells #[.slice la m cap, .int .i64 kind, .string key, .int .i64 un, .slice ua ul uc] 46))
 generalize w.alloc (.cells #[.slice la m cap, .int .i64 kind, .string key, .int .i64 un, .slice ua ul uc] 46) = w1 at *
 obtain ⟨x, hx0⟩ : ∃ z, Keep (z = w.heap.size) := ⟨_, ⟨rfl⟩⟩
 rw [← hx0.out] at X1 ⊢
 have B1 : Keep (Below w.heap.size w w1) := ⟨b_⟩
 have gx : Keep (w.heap.size ≤ x) := ⟨by rw [hx0.out]; exact Nat.le_refl _⟩
 clear b_
 simp only [Act.put, pqA, pqB, pqC]
 refine VbF ?_
 refine WL.nil (hK1 _ _ ?_)
 refine wp_seq_k fun K2 hK2 => rgn ?_
 refine VlS (.pointer (some ⟨x, 0, none⟩)) ?_
 have m_ : w1.cell? ⟨x, 0, none⟩ = some (.slice la m cap) := X1.out.c 0 rfl
 refine WL.val (by kernel_rfl) (.slice la m cap) (by go_simp) ?_
 clear m_
 simp only [Act.put, pqA, pqB, pqC]
 refine WL.callF (by kernel_rfl) 10 _ _ rfl Try.in10 #[.slice la m cap] (by simp [Act.eval]) ?_
 refine (pRoot_any _ L w1 ((HC.out.below B1.out).mono B1.out.size) HS.out HN.out).mono ?_
 rintro e w2 ⟨rfl, k1⟩
 refine ⟨_, rfl, ?_⟩
 rw [← hhe.out, hwi.out]
 have X2 := Keep.mk (X1.out.below k1 X1.out.lt)
 have B2 : Keep (Below w.heap.size w w2) := ⟨B1.out.trans (k1.mono B1.out.size)⟩
 clear k1
 simp only [Act.put, pqA, pqB, pqC]
 refine VlS (.tuple #[.agg hh, .int .i64 0]) ?_
 refine VlS (.agg hh) ?_
 refine VlS (.int .i64 0) ?_
 refine WL.new (by kernel_rfl) 25 rfl _ Try.new25 ?_
 have A3 := Keep.mk (Blk.new w2 25 (bytesA 32 fun _ => 0))
 have b_ := below_new w2 (.cells (bytesA 32 fun _ => 0) 25)
 change WL _ _ _ _ _ (w2.alloc (.cells (bytesA 32 fun _ => 0) 25))
 generalize w2.alloc (.cells (bytesA 32 fun _ => 0) 25) = w3 at *
 obtain ⟨a, ha0⟩ : ∃ z, Keep (z = w2.heap.size) := ⟨_, ⟨rfl⟩⟩
 rw [← ha0.out] at A3 ⊢
 have X3 := Keep.mk (X2.out.below b_ X2.out.lt)
 have B3 : Keep (Below w.heap.size w w3) := ⟨B2.out.trans (b_.mono B2.out.size)⟩
 have ga : Keep (w.heap.size ≤ a) := ⟨by rw [ha0.out]; exact B2.out.size⟩
 clear b_
 have nxa : Keep (x ≠ a) := ⟨by have := X2.out.lt; have := ha0.out; omega⟩
 simp only [Act.put, pqA, pqB, pqC]
 refine WL.storeR (by kernel_rfl) 25 (.tmp 3) (.tmp 16) rfl a hh rfl rfl 25 (bytesA 32 fun _ => 0) A3.out (by rw [hhe2.out]; exact Try.size25B _) (by rw [hhe2.out]; exact bytesA_sizes _ _ _) (by rw [hhe2.out]; exact bytesA_one _ _) ?_
 have A4 := Keep.mk (A3.out.setRow hh)
 have B4 : Keep (Below w.heap.size w (w3.setRow a hh)) := ⟨below_setRow B3.out ga.out _⟩
 have X4 := Keep.mk (X3.out.setRow_ne nxa.out hh)
 generalize w3.setRow a hh = w4 at *
 simp only [Act.put]
 refine VlS (.int .i64 0) ?_
 refine WL.nil (hK2 _ _ ?_)
 refine wp_seq_k fun K3 hK3 => ?_
 refine wp_seq_k fun K4 hK4 => rgn ?_
 refine VlS (.int .i64 0) ?_
 refine VbF ?_
 refine WL.nil (hK4 _ _ ?_)
 refine wp_cond_false rfl ?_
 refine wp_skip ?_
 refine hK3 _ _ ?_
 refine wp_seq_k fun K5 hK5 => ?_
 refine wp_seq_k fun K6 hK6 => rgn ?_
 refine VlS (.pointer (some ⟨x, 0, none⟩)) ?_
 have m_ : w4.cell? ⟨x, 0, none⟩ = some (.slice la m cap) := X4.out.c 0 rfl
 refine WL.val (by kernel_rfl) (.slice la m cap) (by go_simp) ?_
 clear m_
 simp only [Act.put, pqA, pqB, pqC]
 refine WL.callF (by kernel_rfl) 18 _ _ rfl Try.in18 #[.slice la m cap] (by simp [Act.eval]) ?_
 refine (wrong_any w.heap.size _ L w4 (HC.out.below B4.out) B4.out.size (by have := HN.out; omega)).mono ?_
 rintro e w5 ⟨rfl, k1⟩
 refine ⟨_, rfl, ?_⟩
 rw [hwi.out]
 have X5 := Keep.mk (X4.out.below k1 X4.out.lt)
 have A5 := Keep.mk (A4.out.below k1 A4.out.lt)
 have B5 : Keep (Below w.heap.size w w5) := ⟨B4.out.trans (k1.mono B4.out.size)⟩
 clear k1
 simp only [Act.put, pqA, pqB, pqC]
 refine VbF ?_
 refine WL.nil (hK6 _ _ ?_)
 refine wp_cond_false rfl ?_
 refine wp_skip ?_
 refine hK5 _ _ ?_
 refine wp_seq_k fun K7 hK7 => rgn ?_
 refine WL.row (by kernel_rfl) 25 (.tmp 3) rfl a rfl 25 hh _ A5.out Try.underlying25 rfl (by rw [hhe2.out]; exact Try.size25B _) ?_
 simp only [Act.put, pqA, pqB, pqC]
 refine VlS (.pointer (some ⟨x, 1, none⟩)) ?_
 have m_ : w5.cell? ⟨x, 1, none⟩ = some (.int .i64 kind) := X5.out.c 1 rfl
 refine WL.val (by kernel_rfl) (.int .i64 kind) (by go_simp) ?_
 clear m_
 simp only [Act.put, pqA, pqB, pqC]
 refine VlS (.pointer (some ⟨x, 2, none⟩)) ?_
 have m_ : w5.cell? ⟨x, 2, none⟩ = some (.string key) := X5.out.c 2 rfl
 refine WL.val (by kernel_rfl) (.string key) (by go_simp) ?_
 clear m_
 simp only [Act.put, pqA, pqB, pqC]
 refine VlS (.pointer (some ⟨x, 3, none⟩)) ?_
 refine WL.midA (by kernel_rfl) 31 (.tmp 37) rfl x 3 rfl (wtA un (.slice ua ul uc)) _ (ask_rng X5.out) Try.underlying31 rfl (by rfl) ?_
 simp only [Act.put, pqA, pqB, pqC]
 have hck := pcheck_any _ un kind key ls root w5 ((HL.out.below B5.out).mono B5.out.size) Hun.out HSl.out
 rw [← hhe2.out] at hck
 refine WL.callF (by kernel_rfl) 15 _ _ rfl Try.in15 #[.agg hh, .int .i64 kind, .string key, .agg (wtA un (.slice ua ul uc))] (by simp [Act.eval]) ?_
 refine (hck).mono ?_
 rintro e w6 ⟨c, rfl, k0, k1, k2, k3⟩
 refine ⟨_, rfl, ?_⟩
 clear hck
 have C6 := Keep.mk k0
 have K2 := Keep.mk k2
 have K3 := Keep.mk k3
 rw [hce.out, hci.out]
 have X6 := Keep.mk (X5.out.below k1 X5.out.lt)
 have A6 := Keep.mk (A5.out.below k1 A5.out.lt)
 have B6 : Keep (Below w.heap.size w w6) := ⟨B5.out.trans (k1.mono B5.out.size)⟩
 clear k0 k1 k2 k3
 simp only [Act.put, pqA, pqB, pqC]
 refine VlS (.tuple #[.agg (cvA c), .bool ci, .int .i64 ce]) ?_
 refine VlS (.agg (cvA c)) ?_
 refine VlS (.bool ci) ?_
 refine VlS (.int .i64 ce) ?_
 refine WL.new (by kernel_rfl) 40 rfl _ Try.newC ?_
 have Q7 := Keep.mk (Blk.new w6 40 #[.int .i64 0, .string ByteArray.empty, .slice none 0 0])
 have b_ := below_new w6 (.cells #[.int .i64 0, .string ByteArray.empty, .slice none 0 0] 40)
 change WL _ _ _ _ _ (w6.alloc (.cells #[.int .i64 0, .string ByteArray.empty, .slice none 0 0] 40))
 generalize w6.alloc (.cells #[.int .i64 0, .string ByteArray.empty, .slice none 0 0] 40) = w7 at *
 obtain ⟨q, hq0⟩ : ∃ z, Keep (z = w6.heap.size) := ⟨_, ⟨rfl⟩⟩
 rw [← hq0.out] at Q7 ⊢
 have X7 := Keep.mk (X6.out.below b_ X6.out.lt)
 have A7 := Keep.mk (A6.out.below b_ A6.out.lt)
 have B7 : Keep (Below w.heap.size w w7) := ⟨B6.out.trans (b_.mono B6.out.size)⟩
 have gq : Keep (w.heap.size ≤ q) := ⟨by rw [hq0.out]; exact B6.out.size⟩
 have n7 := Keep.mk b_
 clear b_
 have nxq : Keep (x ≠ q) := ⟨by have := X6.out.lt; have := hq0.out; omega⟩
 have naq : Keep (a ≠ q) := ⟨by have := A6.out.lt; have := hq0.out; omega⟩
 simp only [Act.put, pqA, pqB, pqC]
 refine WL.storeR (by kernel_rfl) 40 (.tmp 5) (.tmp 40) rfl q (cvA c) rfl rfl 40 #[.int .i64 0, .string ByteArray.empty, .slice none 0 0] Q7.out (Try.sizeC _ _ _) rfl (cvA_one1 C6.out) ?_
 have Q8 := Keep.mk (Q7.out.setRow (cvA c))
 have B8 : Keep (Below w.heap.size w (w7.setRow q (cvA c))) := ⟨below_setRow B7.out gq.out _⟩
 have X8 := Keep.mk (X7.out.setRow_ne nxq.out (cvA c))
 have A8 := Keep.mk (A7.out.setRow_ne naq.out (cvA c))
 have C8 : Keep (RowAt (w7.setRow q (cvA c)) c.v c.l) := ⟨C6.out.below (below_setRow n7.out (by rw [hq0.out]; exact Nat.le_refl _) _)⟩
 generalize w7.setRow q (cvA c) = w8 at *
 simp only [Act.put]
 refine VlS (.bool ci) ?_
 refine VlS (.int .i64 ce) ?_
 refine WL.nil (hK7 _ _ ?_)
 refine wp_seq_k fun K8 hK8 => ?_
 refine wp_seq_k fun K9 hK9 => rgn ?_
 refine VlS (.int .i64 ce) ?_
 refine VbT ?_
 refine WL.nil (hK9 _ _ ?_)
 refine wp_cond_true rfl ?_
 refine wp_seq_k fun K10 hK10 => ?_
 obtain rfl : ci = false := by rw [← hci.out]; unfold chkI; rw [hce.out]; simp [hce0]
 have HZ := Keep.mk (K2.out hci.out)
 refine rgn ?_
 refine VbF ?_
 refine VbT ?_
 refine VbT ?_
 refine WL.row (by kernel_rfl) 40 (.tmp 5) rfl q rfl 40 (cvA c) _ Q8.out Try.underlying40 rfl (Try.sizeC _ _ _) ?_
 simp only [Act.put, pqA, pqB, pqC]
 refine WL.bld (by kernel_rfl) 40 #[] rfl [] (by simp) #[.int .i64 0, .string ByteArray.empty, .slice none 0 0] bldC0 ?_
 simp only [Act.put, pqA, pqB, pqC]
 refine WL.callF (by kernel_rfl) 17 _ _ rfl Try.in17 #[.agg (cvA c), .agg #[.int .i64 0, .string ByteArray.empty, .slice none 0 0]] (by simp [Act.eval]) ?_
 refine (sameC_any c ⟨0, ByteArray.empty, .slice none 0 0, []⟩ w8 C8.out (.inl ⟨rfl, rfl⟩)).mono ?_
 rintro e w9 ⟨rfl, k1⟩
 refine ⟨_, rfl, ?_⟩
 rw [show sameC c ⟨0, ByteArray.empty, .slice none 0 0, []⟩ = true from by rw [HZ.out]; rfl]
 have B9 : Keep (Below w.heap.size w w9) := ⟨B8.out.trans (k1.mono B8.out.size)⟩
 clear k1
 simp only [Act.put, pqA, pqB, pqC]
 refine VbT ?_
 refine VbT ?_
 refine WL.callF (by kernel_rfl) 9 _ _ rfl Try.in9 #[] (by simp) ?_
 refine (fixed_any w9).mono ?_
 rintro e w10 ⟨rfl, k1⟩
 refine ⟨_, rfl, ?_⟩
 have B10 : Keep (Below w.heap.size w w10) := ⟨B9.out.trans (k1.mono B9.out.size)⟩
 clear k1
 simp only [Act.put, pqA, pqB, pqC]
 refine VbT ?_
 refine VbT ?_
 refine WL.nil (hK10 _ _ ?_)
 refine wp_ret ?_
 go_ret
 exact ⟨rfl, B10.out⟩
set_option maxRecDepth 8000 in
set_option maxHeartbeats 2000000 in
theorem true_yes (la : Option Addr) (m cap : Nat) (ua : Option Addr) (ul uc : Nat) (L : List CV) (ls : List LV) (kind un : Int) (key : ByteArray) (at_ : Nat) (hh : Array Value) (w : World) (HC : Keep (CsV w.heap.size w (.slice la m cap) L)) (HL : Keep (LsV w.heap.size w (.slice ua ul uc) ls)) (HS : Keep (Sml L)) (HN : Keep (L.length ≤ 1099511627776)) (hhe : Keep (hh = bytesA 32 (rootF L))) (root : Hs) (hwi : Keep (wrongI L = 0)) (hhe2 : Keep (hh = bytesA 32 root.f)) (Hun : Keep (un < 9223372036854775808)) (HSl : Keep (SmL ls)) (ci : Bool) (hce : Keep (chkE root un kind key ls = 0)) (hci : Keep (chkI root un kind key ls = ci)) (hkm : kmay kind = true) (HA : Keep (at_ ≤ L.length)) (HAt : Keep (wrongI L = 0 → ∀ (i : Nat) (c : CV), L[i]? = some c → (stI c.k c.s kind key < 0 ↔ i < at_))) (Hr : Keep (root = shaH (rootL L))) (HHo : Keep (un = (L.length : Int) ∧ (L = [] → ls = []) ∧ (L ≠ [] → ls.length = (fnd L.length at_ (fndB L at_ kind key)).length ∧ LIs L (fnd L.length at_ (fndB L at_ kind key)) ls))) :
  Calls Try.prog 7 #[.agg #[.slice la m cap, .int .i64 kind, .string key, .int .i64 un, .slice ua ul uc]] w fun e w' => e = .returned (.bool true) ∧ Below w.heap.size w w' := by
 go_enter Try.func7, Try.ntmps7
 refine wp_seq_k fun K1 hK1 => rgn ?_
 refine WL.box (by kernel_rfl) 46 (.tmp 0) rfl #[.slice la m cap, .int .i64 kind, .string key, .int .i64 un, .slice ua ul uc] rfl ?_
 have X1 := Keep.mk (Blk.new w 46 #[.slice la m cap, .int .i64 kind, .string key, .int .i64 un, .slice ua ul uc])
 have b_ := below_new w (.cells #[.slice la m cap, .int .i64 kind, .string key, .int .i64 un, .slice ua ul uc] 46)
 change WL _ _ _ _ _ (w.alloc (.cells #[.slice la m cap, .int .i64 kind, .string key, .int .i64 un, .slice ua ul uc] 46))
 generalize w.alloc (.cells #[.slice la m cap, .int .i64 kind, .string key, .int .i64 un, .slice ua ul uc] 46) = w1 at *
 obtain ⟨x, hx0⟩ : ∃ z, Keep (z = w.heap.size) := ⟨_, ⟨rfl⟩⟩
 rw [← hx0.out] at X1 ⊢
 have B1 : Keep (Below w.heap.size w w1) := ⟨b_⟩
 have gx : Keep (w.heap.size ≤ x) := ⟨by rw [hx0.out]; exact Nat.le_refl _⟩
 clear b_
 simp only [Act.put, pqA, pqB, pqC]
 refine VbF ?_
 refine WL.nil (hK1 _ _ ?_)
 refine wp_seq_k fun K2 hK2 => rgn ?_
 refine VlS (.pointer (some ⟨x, 0, none⟩)) ?_
 have m_ : w1.cell? ⟨x, 0, none⟩ = some (.slice la m cap) := X1.out.c 0 rfl
 refine WL.val (by kernel_rfl) (.slice la m cap) (by go_simp) ?_
 clear m_
 simp only [Act.put, pqA, pqB, pqC]
 refine WL.callF (by kernel_rfl) 10 _ _ rfl Try.in10 #[.slice la m cap] (by simp [Act.eval]) ?_
 refine (pRoot_any _ L w1 ((HC.out.below B1.out).mono B1.out.size) HS.out HN.out).mono ?_
 rintro e w2 ⟨rfl, k1⟩
 refine ⟨_, rfl, ?_⟩
 rw [← hhe.out, hwi.out]
 have X2 := Keep.mk (X1.out.below k1 X1.out.lt)
 have B2 : Keep (Below w.heap.size w w2) := ⟨B1.out.trans (k1.mono B1.out.size)⟩
 clear k1
 simp only [Act.put, pqA, pqB, pqC]
 refine VlS (.tuple #[.agg hh, .int .i64 0]) ?_
 refine VlS (.agg hh) ?_
 refine VlS (.int .i64 0) ?_
 refine WL.new (by kernel_rfl) 25 rfl _ Try.new25 ?_
 have A3 := Keep.mk (Blk.new w2 25 (bytesA 32 fun _ => 0))
 have b_ := below_new w2 (.cells (bytesA 32 fun _ => 0) 25)
 change WL _ _ _ _ _ (w2.alloc (.cells (bytesA 32 fun _ => 0) 25))
 generalize w2.alloc (.cells (bytesA 32 fun _ => 0) 25) = w3 at *
 obtain ⟨a, ha0⟩ : ∃ z, Keep (z = w2.heap.size) := ⟨_, ⟨rfl⟩⟩
 rw [← ha0.out] at A3 ⊢
 have X3 := Keep.mk (X2.out.below b_ X2.out.lt)
 have B3 : Keep (Below w.heap.size w w3) := ⟨B2.out.trans (b_.mono B2.out.size)⟩
 have ga : Keep (w.heap.size ≤ a) := ⟨by rw [ha0.out]; exact B2.out.size⟩
 clear b_
 have nxa : Keep (x ≠ a) := ⟨by have := X2.out.lt; have := ha0.out; omega⟩
 simp only [Act.put, pqA, pqB, pqC]
 refine WL.storeR (by kernel_rfl) 25 (.tmp 3) (.tmp 16) rfl a hh rfl rfl 25 (bytesA 32 fun _ => 0) A3.out (by rw [hhe2.out]; exact Try.size25B _) (by rw [hhe2.out]; exact bytesA_sizes _ _ _) (by rw [hhe2.out]; exact bytesA_one _ _) ?_
 have A4 := Keep.mk (A3.out.setRow hh)
 have B4 : Keep (Below w.heap.size w (w3.setRow a hh)) := ⟨below_setRow B3.out ga.out _⟩
 have X4 := Keep.mk (X3.out.setRow_ne nxa.out hh)
 generalize w3.setRow a hh = w4 at *
 simp only [Act.put]
 refine VlS (.int .i64 0) ?_
 refine WL.nil (hK2 _ _ ?_)
 refine wp_seq_k fun K3 hK3 => ?_
 refine wp_seq_k fun K4 hK4 => rgn ?_
 refine VlS (.int .i64 0) ?_
 refine VbF ?_
 refine WL.nil (hK4 _ _ ?_)
 refine wp_cond_false rfl ?_
 refine wp_skip ?_
 refine hK3 _ _ ?_
 refine wp_seq_k fun K5 hK5 => ?_
 refine wp_seq_k fun K6 hK6 => rgn ?_
 refine VlS (.pointer (some ⟨x, 0, none⟩)) ?_
 have m_ : w4.cell? ⟨x, 0, none⟩ = some (.slice la m cap) := X4.out.c 0 rfl
 refine WL.val (by kernel_rfl) (.slice la m cap) (by go_simp) ?_
 clear m_
 simp only [Act.put, pqA, pqB, pqC]
 refine WL.callF (by kernel_rfl) 18 _ _ rfl Try.in18 #[.slice la m cap] (by simp [Act.eval]) ?_
 refine (wrong_any w.heap.size _ L w4 (HC.out.below B4.out) B4.out.size (by have := HN.out; omega)).mono ?_
 rintro e w5 ⟨rfl, k1⟩
 refine ⟨_, rfl, ?_⟩
 rw [hwi.out]
 have X5 := Keep.mk (X4.out.below k1 X4.out.lt)
 have A5 := Keep.mk (A4.out.below k1 A4.out.lt)
 have B5 : Keep (Below w.heap.size w w5) := ⟨B4.out.trans (k1.mono B4.out.size)⟩
 clear k1
 simp only [Act.put, pqA, pqB, pqC]
 refine VbF ?_
 refine WL.nil (hK6 _ _ ?_)
 refine wp_cond_false rfl ?_
 refine wp_skip ?_
 refine hK5 _ _ ?_
 refine wp_seq_k fun K7 hK7 => rgn ?_
 refine WL.row (by kernel_rfl) 25 (.tmp 3) rfl a rfl 25 hh _ A5.out Try.underlying25 rfl (by rw [hhe2.out]; exact Try.size25B _) ?_
 simp only [Act.put, pqA, pqB, pqC]
 refine VlS (.pointer (some ⟨x, 1, none⟩)) ?_
 have m_ : w5.cell? ⟨x, 1, none⟩ = some (.int .i64 kind) := X5.out.c 1 rfl
 refine WL.val (by kernel_rfl) (.int .i64 kind) (by go_simp) ?_
 clear m_
 simp only [Act.put, pqA, pqB, pqC]
 refine VlS (.pointer (some ⟨x, 2, none⟩)) ?_
 have m_ : w5.cell? ⟨x, 2, none⟩ = some (.string key) := X5.out.c 2 rfl
 refine WL.val (by kernel_rfl) (.string key) (by go_simp) ?_
 clear m_
 simp only [Act.put, pqA, pqB, pqC]
 refine VlS (.pointer (some ⟨x, 3, none⟩)) ?_
 refine WL.midA (by kernel_rfl) 31 (.tmp 37) rfl x 3 rfl (wtA un (.slice ua ul uc)) _ (ask_rng X5.out) Try.underlying31 rfl (by rfl) ?_
 simp only [Act.put, pqA, pqB, pqC]
 have hck := pcheck_any _ un kind key ls root w5 ((HL.out.below B5.out).mono B5.out.size) Hun.out HSl.out
 rw [← hhe2.out] at hck
 refine WL.callF (by kernel_rfl) 15 _ _ rfl Try.in15 #[.agg hh, .int .i64 kind, .string key, .agg (wtA un (.slice ua ul uc))] (by simp [Act.eval]) ?_
 refine (hck).mono ?_
 rintro e w6 ⟨c, rfl, k0, k1, k2, k3⟩
 refine ⟨_, rfl, ?_⟩
 clear hck
 have C6 := Keep.mk k0
 have K2 := Keep.mk k2
 have K3 := Keep.mk k3
 rw [hce.out, hci.out]
 have X6 := Keep.mk (X5.out.below k1 X5.out.lt)
 have A6 := Keep.mk (A5.out.below k1 A5.out.lt)
 have B6 : Keep (Below w.heap.size w w6) := ⟨B5.out.trans (k1.mono B5.out.size)⟩
 clear k0 k1 k2 k3
 simp only [Act.put, pqA, pqB, pqC]
 refine VlS (.tuple #[.agg (cvA c), .bool ci, .int .i64 0]) ?_
 refine VlS (.agg (cvA c)) ?_
 refine VlS (.bool ci) ?_
 refine VlS (.int .i64 0) ?_
 refine WL.new (by kernel_rfl) 40 rfl _ Try.newC ?_
 have Q7 := Keep.mk (Blk.new w6 40 #[.int .i64 0, .string ByteArray.empty, .slice none 0 0])
 have b_ := below_new w6 (.cells #[.int .i64 0, .string ByteArray.empty, .slice none 0 0] 40)
 change WL _ _ _ _ _ (w6.alloc (.cells #[.int .i64 0, .string ByteArray.empty, .slice none 0 0] 40))
 generalize w6.alloc (.cells #[.int .i64 0, .string ByteArray.empty, .slice none 0 0] 40) = w7 at *
 obtain ⟨q, hq0⟩ : ∃ z, Keep (z = w6.heap.size) := ⟨_, ⟨rfl⟩⟩
 rw [← hq0.out] at Q7 ⊢
 have X7 := Keep.mk (X6.out.below b_ X6.out.lt)
 have A7 := Keep.mk (A6.out.below b_ A6.out.lt)
 have B7 : Keep (Below w.heap.size w w7) := ⟨B6.out.trans (b_.mono B6.out.size)⟩
 have gq : Keep (w.heap.size ≤ q) := ⟨by rw [hq0.out]; exact B6.out.size⟩
 have n7 := Keep.mk b_
 clear b_
 have nxq : Keep (x ≠ q) := ⟨by have := X6.out.lt; have := hq0.out; omega⟩
 have naq : Keep (a ≠ q) := ⟨by have := A6.out.lt; have := hq0.out; omega⟩
 simp only [Act.put, pqA, pqB, pqC]
 refine WL.storeR (by kernel_rfl) 40 (.tmp 5) (.tmp 40) rfl q (cvA c) rfl rfl 40 #[.int .i64 0, .string ByteArray.empty, .slice none 0 0] Q7.out (Try.sizeC _ _ _) rfl (cvA_one1 C6.out) ?_
 have Q8 := Keep.mk (Q7.out.setRow (cvA c))
 have B8 : Keep (Below w.heap.size w (w7.setRow q (cvA c))) := ⟨below_setRow B7.out gq.out _⟩
 have X8 := Keep.mk (X7.out.setRow_ne nxq.out (cvA c))
 have A8 := Keep.mk (A7.out.setRow_ne naq.out (cvA c))
 have C8 : Keep (RowAt (w7.setRow q (cvA c)) c.v c.l) := ⟨C6.out.below (below_setRow n7.out (by rw [hq0.out]; exact Nat.le_refl _) _)⟩
 generalize w7.setRow q (cvA c) = w8 at *
 simp only [Act.put]
 refine VlS (.bool ci) ?_
 refine VlS (.int .i64 0) ?_
 refine WL.nil (hK7 _ _ ?_)
 refine wp_seq_k fun K8 hK8 => ?_
 refine wp_seq_k fun K9 hK9 => rgn ?_
 refine VlS (.int .i64 0) ?_
 refine VbF ?_
 refine WL.nil (hK9 _ _ ?_)
 refine wp_cond_false rfl ?_
 refine wp_skip ?_
 refine hK8 _ _ ?_
 refine wp_seq_k fun K10 hK10 => rgn ?_
 refine VlS (.pointer (some ⟨x, 0, none⟩)) ?_
 have m_ : w8.cell? ⟨x, 0, none⟩ = some (.slice la m cap) := X8.out.c 0 rfl
 refine WL.val (by kernel_rfl) (.slice la m cap) (by go_simp) ?_
 clear m_
 simp only [Act.put, pqA, pqB, pqC]
 refine VlS (.pointer (some ⟨x, 1, none⟩)) ?_
 have m_ : w8.cell? ⟨x, 1, none⟩ = some (.int .i64 kind) := X8.out.c 1 rfl
 refine WL.val (by kernel_rfl) (.int .i64 kind) (by go_simp) ?_
 clear m_
 simp only [Act.put, pqA, pqB, pqC]
 refine VlS (.pointer (some ⟨x, 2, none⟩)) ?_
 have m_ : w8.cell? ⟨x, 2, none⟩ = some (.string key) := X8.out.c 2 rfl
 refine WL.val (by kernel_rfl) (.string key) (by go_simp) ?_
 clear m_
 simp only [Act.put, pqA, pqB, pqC]
 refine WL.callF (by kernel_rfl) 12 _ _ rfl Try.in12 #[.slice la m cap, .int .i64 kind, .string key] (by simp [Act.eval]) ?_
 refine (fd_any _ L kind key at_ w8 ((HC.out.below B8.out).mono B8.out.size) HS.out HN.out HA.out HAt.out).mono ?_
 rintro e w9 ⟨n1, v1, ls1, e1, rfl, k0, k1, k2, k3, k4⟩
 refine ⟨_, rfl, ?_⟩
 have S1 := Keep.mk k0
 have F1 := Keep.mk (And.intro k2 (And.intro k3 k4))
 obtain ⟨va1, vl1, vc1, hv1⟩ : ∃ a n c, v1 = .slice a n c := by
  rcases k0 with ⟨a, c, h, _⟩ | ⟨g, o, c, h, _⟩
  ·exact ⟨_, _, _, h⟩
  ·exact ⟨_, _, _, h⟩
 subst hv1
 have b1 := Keep.mk k1
 have X9 := Keep.mk (X8.out.below k1 X8.out.lt)
 have A9 := Keep.mk (A8.out.below k1 A8.out.lt)
 have Q9 := Keep.mk (Q8.out.below k1 Q8.out.lt)
 have B9 : Keep (Below w.heap.size w w9) := ⟨B8.out.trans (k1.mono B8.out.size)⟩
 have C9 := Keep.mk (C8.out.below k1)
 clear k0 k1 k2 k3 k4
 obtain ⟨-, he1, -, -⟩ := F1.out.2.2 hkm hwi.out
 obtain rfl := he1
 simp only [Act.put, pqA, pqB, pqC]
 refine VlS (.tuple #[.agg (wtA n1 (.slice va1 vl1 vc1)), .int .i64 0]) ?_
 refine VlS (.agg (wtA n1 (.slice va1 vl1 vc1))) ?_
 refine VlS (.int .i64 0) ?_
 refine WL.new (by kernel_rfl) 31 rfl _ Try.newW ?_
 have P10 := Keep.mk (Blk.new w9 31 #[.int .i64 0, .slice none 0 0])
 have b_ := below_new w9 (.cells #[.int .i64 0, .slice none 0 0] 31)
 change WL _ _ _ _ _ (w9.alloc (.cells #[.int .i64 0, .slice none 0 0] 31))
 generalize w9.alloc (.cells #[.int .i64 0, .slice none 0 0] 31) = w10 at *
 obtain ⟨p, hp0⟩ : ∃ z, Keep (z = w9.heap.size) := ⟨_, ⟨rfl⟩⟩
 rw [← hp0.out] at P10 ⊢
 have X10 := Keep.mk (X9.out.below b_ X9.out.lt)
 have A10 := Keep.mk (A9.out.below b_ A9.out.lt)
 have Q10 := Keep.mk (Q9.out.below b_ Q9.out.lt)
 have B10 : Keep (Below w.heap.size w w10) := ⟨B9.out.trans (b_.mono B9.out.size)⟩
 have gp : Keep (w.heap.size ≤ p) := ⟨by rw [hp0.out]; exact B9.out.size⟩
 have n10 := Keep.mk b_
 clear b_
 have nxp : Keep (x ≠ p) := ⟨by have := X9.out.lt; have := hp0.out; omega⟩
 have nap : Keep (a ≠ p) := ⟨by have := A9.out.lt; have := hp0.out; omega⟩
 have nqp : Keep (q ≠ p) := ⟨by have := Q9.out.lt; have := hp0.out; omega⟩
 simp only [Act.put, pqA, pqB, pqC]
 refine WL.storeR (by kernel_rfl) 31 (.tmp 8) (.tmp 63) rfl p (wtA n1 (.slice va1 vl1 vc1)) rfl rfl 31 #[.int .i64 0, .slice none 0 0] P10.out (by rfl) rfl (by simp [wtA, Value.oneCell']) ?_
 have P11 := Keep.mk (P10.out.setRow (wtA n1 (.slice va1 vl1 vc1)))
 have B11 : Keep (Below w.heap.size w (w10.setRow p (wtA n1 (.slice va1 vl1 vc1)))) := ⟨below_setRow B10.out gp.out _⟩
 have X11 := Keep.mk (X10.out.setRow_ne nxp.out (wtA n1 (.slice va1 vl1 vc1)))
 have A11 := Keep.mk (A10.out.setRow_ne nap.out (wtA n1 (.slice va1 vl1 vc1)))
 have Q11 := Keep.mk (Q10.out.setRow_ne nqp.out (wtA n1 (.slice va1 vl1 vc1)))
 have b11 := below_setRow n10.out (by rw [hp0.out]; exact Nat.le_refl _ : w9.heap.size ≤ p) (wtA n1 (.slice va1 vl1 vc1))
 have T11 : Keep (LsV (w10.setRow p (wtA n1 (.slice va1 vl1 vc1))).heap.size (w10.setRow p (wtA n1 (.slice va1 vl1 vc1))) (.slice va1 vl1 vc1) ls1) := ⟨(S1.out.below b11).mono b11.size⟩
 have C11 := Keep.mk (C9.out.below b11)
 clear b11
 generalize w10.setRow p (wtA n1 (.slice va1 vl1 vc1)) = w11 at *
 simp only [Act.put]
 refine VlS (.int .i64 0) ?_
 refine WL.nil (hK10 _ _ ?_)
 refine wp_seq_k fun K11 hK11 => rgn ?_
 refine VlS (.pointer (some ⟨x, 0, none⟩)) ?_
 have m_ : w11.cell? ⟨x, 0, none⟩ = some (.slice la m cap) := X11.out.c 0 rfl
 refine WL.val (by kernel_rfl) (.slice la m cap) (by go_simp) ?_
 clear m_
 simp only [Act.put, pqA, pqB, pqC]
 refine VlS (.pointer (some ⟨x, 1, none⟩)) ?_
 have m_ : w11.cell? ⟨x, 1, none⟩ = some (.int .i64 kind) := X11.out.c 1 rfl
 refine WL.val (by kernel_rfl) (.int .i64 kind) (by go_simp) ?_
 clear m_
 simp only [Act.put, pqA, pqB, pqC]
 refine VlS (.pointer (some ⟨x, 2, none⟩)) ?_
 have m_ : w11.cell? ⟨x, 2, none⟩ = some (.string key) := X11.out.c 2 rfl
 refine WL.val (by kernel_rfl) (.string key) (by go_simp) ?_
 clear m_
 simp only [Act.put, pqA, pqB, pqC]
 refine WL.callF (by kernel_rfl) 19 _ _ rfl Try.in19 #[.slice la m cap, .int .i64 kind, .string key] (by simp [Act.eval]) ?_
 refine (st_any _ L kind key w11 ((HC.out.below B11.out).mono B11.out.size) HN.out).mono ?_
 rintro e w12 ⟨d, yes, rfl, k0, k1, k2, k3⟩
 refine ⟨_, rfl, ?_⟩
 have D12 := Keep.mk k0
 have C12 := Keep.mk (C11.out.below k1)
 have T12 := Keep.mk ((T11.out.below k1).mono k1.size)
 have HY := Keep.mk (And.intro k2 k3)
 have X12 := Keep.mk (X11.out.below k1 X11.out.lt)
 have A12 := Keep.mk (A11.out.below k1 A11.out.lt)
 have Q12 := Keep.mk (Q11.out.below k1 Q11.out.lt)
 have P12 := Keep.mk (P11.out.below k1 P11.out.lt)
 have B12 : Keep (Below w.heap.size w w12) := ⟨B11.out.trans (k1.mono B11.out.size)⟩
 clear k0 k1 k2 k3
 simp only [Act.put, pqA, pqB, pqC]
 refine VlS (.tuple #[.agg (cvA d), .bool yes]) ?_
 refine VlS (.agg (cvA d)) ?_
 refine VlS (.bool yes) ?_
 refine WL.new (by kernel_rfl) 40 rfl _ Try.newC ?_
 have S13 := Keep.mk (Blk.new w12 40 #[.int .i64 0, .string ByteArray.empty, .slice none 0 0])
 have b_ := below_new w12 (.cells #[.int .i64 0, .string ByteArray.empty, .slice none 0 0] 40)
 change WL _ _ _ _ _ (w12.alloc (.cells #[.int .i64 0, .string ByteArray.empty, .slice none 0 0] 40))
 generalize w12.alloc (.cells #[.int .i64 0, .string ByteArray.empty, .slice none 0 0] 40) = w13 at *
 obtain ⟨s, hs0⟩ : ∃ z, Keep (z = w12.heap.size) := ⟨_, ⟨rfl⟩⟩
 rw [← hs0.out] at S13 ⊢
 have X13 := Keep.mk (X12.out.below b_ X12.out.lt)
 have A13 := Keep.mk (A12.out.below b_ A12.out.lt)
 have Q13 := Keep.mk (Q12.out.below b_ Q12.out.lt)
 have P13 := Keep.mk (P12.out.below b_ P12.out.lt)
 have B13 : Keep (Below w.heap.size w w13) := ⟨B12.out.trans (b_.mono B12.out.size)⟩
 have gs : Keep (w.heap.size ≤ s) := ⟨by rw [hs0.out]; exact B12.out.size⟩
 have n13 := Keep.mk b_
 clear b_
 have nxs : Keep (x ≠ s) := ⟨by have := X12.out.lt; have := hs0.out; omega⟩
 have nas : Keep (a ≠ s) := ⟨by have := A12.out.lt; have := hs0.out; omega⟩
 have nqs : Keep (q ≠ s) := ⟨by have := Q12.out.lt; have := hs0.out; omega⟩
 have nps : Keep (p ≠ s) := ⟨by have := P12.out.lt; have := hs0.out; omega⟩
 simp only [Act.put, pqA, pqB, pqC]
 refine WL.storeR (by kernel_rfl) 40 (.tmp 10) (.tmp 73) rfl s (cvA d) rfl rfl 40 #[.int .i64 0, .string ByteArray.empty, .slice none 0 0] S13.out (Try.sizeC _ _ _) rfl (cvA_one1 D12.out) ?_
 have S14 := Keep.mk (S13.out.setRow (cvA d))
 have B14 : Keep (Below w.heap.size w (w13.setRow s (cvA d))) := ⟨below_setRow B13.out gs.out _⟩
 have X14 := Keep.mk (X13.out.setRow_ne nxs.out (cvA d))
 have A14 := Keep.mk (A13.out.setRow_ne nas.out (cvA d))
 have Q14 := Keep.mk (Q13.out.setRow_ne nqs.out (cvA d))
 have P14 := Keep.mk (P13.out.setRow_ne nps.out (cvA d))
 have b14 := below_setRow n13.out (by rw [hs0.out]; exact Nat.le_refl _ : w12.heap.size ≤ s) (cvA d)
 have C14 := Keep.mk (C12.out.below b14)
 have D14 := Keep.mk (D12.out.below b14)
 have T14 := Keep.mk ((T12.out.below b14).mono b14.size)
 clear b14
 generalize w13.setRow s (cvA d) = w14 at *
 simp only [Act.put]
 refine VlS (.bool yes) ?_
 refine WL.nil (hK11 _ _ ?_)
 refine wp_seq_k fun K12 hK12 => ?_
 refine wp_seq_k fun K13 hK13 => ?_
 have hte := tells_eq hwi.out hkm HA.out (HAt.out hwi.out) HHo.out.2.1 HHo.out.2.2 Hr.out (by rw [← HHo.out.1]; exact K2.out) (by rw [← HHo.out.1]; exact K3.out) HY.out.1 HY.out.2
 rw [← HHo.out.1, hci.out] at hte
 have HSa := Keep.mk hte.2.2
 obtain rfl := hte.2.1
 clear hte
 have HSm := Keep.mk (fd_same F1.out.1 F1.out.2.1 F1.out.2.2 (f := 0) (fun h => by rw [hkm] at h; cases h) (fun _ h => absurd hwi.out h) (fun _ _ => ⟨HHo.out.1, rfl, HHo.out.2.1, HHo.out.2.2⟩)).2
 have HSz := Keep.mk (fd_sizes HN.out HA.out F1.out.1 F1.out.2.1 F1.out.2.2)
 have hii : (ci == ci) = true := by cases ci <;> rfl
 refine rgn ?_
 refine VlS (.int .i64 0) ?_
 refine VbT ?_
 refine VbT ?_
 refine VlS (.bool ci) ?_
 refine VlS (.bool ci) ?_
 refine VbT ?_
 refine VbT ?_
 refine VbT ?_
 refine WL.row (by kernel_rfl) 40 (.tmp 5) rfl q rfl 40 (cvA c) _ Q14.out Try.underlying40 rfl (Try.sizeC _ _ _) ?_
 simp only [Act.put, pqA, pqB, pqC]
 refine WL.row (by kernel_rfl) 40 (.tmp 10) rfl s rfl 40 (cvA d) _ S14.out Try.underlying40 rfl (Try.sizeC _ _ _) ?_
 simp only [Act.put, pqA, pqB, pqC]
 refine WL.callF (by kernel_rfl) 17 _ _ rfl Try.in17 #[.agg (cvA c), .agg (cvA d)] (by simp [Act.eval]) ?_
 refine (sameC_any c d w14 C14.out D14.out).mono ?_
 rintro e w15 ⟨rfl, k1⟩
 refine ⟨_, rfl, ?_⟩
 rw [HSa.out]
 have T15 := Keep.mk ((T14.out.below k1).mono k1.size)
 have X15 := Keep.mk (X14.out.below k1 X14.out.lt)
 have A15 := Keep.mk (A14.out.below k1 A14.out.lt)
 have P15 := Keep.mk (P14.out.below k1 P14.out.lt)
 have B15 : Keep (Below w.heap.size w w15) := ⟨B14.out.trans (k1.mono B14.out.size)⟩
 clear k1
 simp only [Act.put, pqA, pqB, pqC]
 refine VbT ?_
 refine VbT ?_
 refine WL.row (by kernel_rfl) 31 (.tmp 8) rfl p rfl 31 (wtA n1 (.slice va1 vl1 vc1)) _ P15.out Try.underlying31 rfl (by rfl) ?_
 simp only [Act.put, pqA, pqB, pqC]
 refine VlS (.pointer (some ⟨x, 3, none⟩)) ?_
 refine WL.midA (by kernel_rfl) 31 (.tmp 89) rfl x 3 rfl (wtA un (.slice ua ul uc)) _ (ask_rng X15.out) Try.underlying31 rfl (by rfl) ?_
 simp only [Act.put, pqA, pqB, pqC]
 refine WL.callF (by kernel_rfl) 14 _ _ rfl Try.in14 #[.agg (wtA n1 (.slice va1 vl1 vc1)), .agg (wtA un (.slice ua ul uc))] (by simp [Act.eval]) ?_
 refine (sw_any _ _ n1 un ls1 ls w15 T15.out ((HL.out.below B15.out).mono B15.out.size) (by have := HSz.out.1; omega) HSz.out.2).mono ?_
 rintro e w16 ⟨sb, rfl, k0, k1⟩
 refine ⟨_, rfl, ?_⟩
 obtain rfl : sb = true := k0.mpr HSm.out
 have B16 : Keep (Below w.heap.size w w16) := ⟨B15.out.trans (k1.mono B15.out.size)⟩
 clear k0 k1
 simp only [Act.put, pqA, pqB, pqC]
 refine VbT ?_
 refine WL.nil (hK13 _ _ ?_)
 refine wp_cond_true rfl ?_
 refine wp_seq_k fun K14 hK14 => rgn ?_
 refine WL.callF (by kernel_rfl) 9 _ _ rfl Try.in9 #[] (by simp) ?_
 refine (fixed_any w16).mono ?_
 rintro e w17 ⟨rfl, k1⟩
 refine ⟨_, rfl, ?_⟩
 have B17 : Keep (Below w.heap.size w w17) := ⟨B16.out.trans (k1.mono B16.out.size)⟩
 clear k1
 simp only [Act.put, pqA, pqB, pqC]
 refine VbT ?_
 refine WL.nil (hK14 _ _ ?_)
 refine wp_ret ?_
 go_ret
 exact ⟨rfl, B17.out⟩
set_option maxRecDepth 8000 in
set_option maxHeartbeats 2000000 in
theorem true_cl (la : Option Addr) (m cap : Nat) (ua : Option Addr) (ul uc : Nat) (L : List CV) (ls : List LV) (kind un : Int) (key : ByteArray) (at_ : Nat) (hh : Array Value) (w : World) (HC : Keep (CsV w.heap.size w (.slice la m cap) L)) (HL : Keep (LsV w.heap.size w (.slice ua ul uc) ls)) (HS : Keep (Sml L)) (HN : Keep (L.length ≤ 1099511627776)) (hhe : Keep (hh = bytesA 32 (rootF L))) (root : Hs) (hwi : Keep (wrongI L = 0)) (hhe2 : Keep (hh = bytesA 32 root.f)) (Hun : Keep (un < 9223372036854775808)) (HSl : Keep (SmL ls)) (ci : Bool) (hce : Keep (chkE root un kind key ls = 0)) (hci : Keep (chkI root un kind key ls = ci)) (hkm : kmay kind = true) (HA : Keep (at_ ≤ L.length)) (HAt : Keep (wrongI L = 0 → ∀ (i : Nat) (c : CV), L[i]? = some c → (stI c.k c.s kind key < 0 ↔ i < at_))) (HF : Keep (Fit L)) (HBy : Keep (∀ c ∈ L, Byts c.l)) (HN5 : Keep (L.length ≤ 549755813888)) (HSp : Keep (SmP ls)) (HBl : Keep (∀ x ∈ ls, Byts x.c.l)) (Hcl : Keep (RtP.Cl shaL (rootS L ++ wlkR un ls))) :
  Calls Try.prog 7 #[.agg #[.slice la m cap, .int .i64 kind, .string key, .int .i64 un, .slice ua ul uc]] w fun e w' => e = .returned (.bool true) ∧ Below w.heap.size w w' := by
 go_enter Try.func7, Try.ntmps7
 refine wp_seq_k fun K1 hK1 => rgn ?_
 refine WL.box (by kernel_rfl) 46 (.tmp 0) rfl #[.slice la m cap, .int .i64 kind, .string key, .int .i64 un, .slice ua ul uc] rfl ?_
 have X1 := Keep.mk (Blk.new w 46 #[.slice la m cap, .int .i64 kind, .string key, .int .i64 un, .slice ua ul uc])
 have b_ := below_new w (.cells #[.slice la m cap, .int .i64 kind, .string key, .int .i64 un, .slice ua ul uc] 46)
 change WL _ _ _ _ _ (w.alloc (.cells #[.slice la m cap, .int .i64 kind, .string key, .int .i64 un, .slice ua ul uc] 46))
 generalize w.alloc (.cells #[.slice la m cap, .int .i64 kind, .string key, .int .i64 un, .slice ua ul uc] 46) = w1 at *
 obtain ⟨x, hx0⟩ : ∃ z, Keep (z = w.heap.size) := ⟨_, ⟨rfl⟩⟩
 rw [← hx0.out] at X1 ⊢
 have B1 : Keep (Below w.heap.size w w1) := ⟨b_⟩
 have gx : Keep (w.heap.size ≤ x) := ⟨by rw [hx0.out]; exact Nat.le_refl _⟩
 clear b_
 simp only [Act.put, pqA, pqB, pqC]
 refine VbF ?_
 refine WL.nil (hK1 _ _ ?_)
 refine wp_seq_k fun K2 hK2 => rgn ?_
 refine VlS (.pointer (some ⟨x, 0, none⟩)) ?_
 have m_ : w1.cell? ⟨x, 0, none⟩ = some (.slice la m cap) := X1.out.c 0 rfl
 refine WL.val (by kernel_rfl) (.slice la m cap) (by go_simp) ?_
 clear m_
 simp only [Act.put, pqA, pqB, pqC]
 refine WL.callF (by kernel_rfl) 10 _ _ rfl Try.in10 #[.slice la m cap] (by simp [Act.eval]) ?_
 refine (pRoot_any _ L w1 ((HC.out.below B1.out).mono B1.out.size) HS.out HN.out).mono ?_
 rintro e w2 ⟨rfl, k1⟩
 refine ⟨_, rfl, ?_⟩
 rw [← hhe.out, hwi.out]
 have X2 := Keep.mk (X1.out.below k1 X1.out.lt)
 have B2 : Keep (Below w.heap.size w w2) := ⟨B1.out.trans (k1.mono B1.out.size)⟩
 clear k1
 simp only [Act.put, pqA, pqB, pqC]
 refine VlS (.tuple #[.agg hh, .int .i64 0]) ?_
 refine VlS (.agg hh) ?_
 refine VlS (.int .i64 0) ?_
 refine WL.new (by kernel_rfl) 25 rfl _ Try.new25 ?_
 have A3 := Keep.mk (Blk.new w2 25 (bytesA 32 fun _ => 0))
 have b_ := below_new w2 (.cells (bytesA 32 fun _ => 0) 25)
 change WL _ _ _ _ _ (w2.alloc (.cells (bytesA 32 fun _ => 0) 25))
 generalize w2.alloc (.cells (bytesA 32 fun _ => 0) 25) = w3 at *
 obtain ⟨a, ha0⟩ : ∃ z, Keep (z = w2.heap.size) := ⟨_, ⟨rfl⟩⟩
 rw [← ha0.out] at A3 ⊢
 have X3 := Keep.mk (X2.out.below b_ X2.out.lt)
 have B3 : Keep (Below w.heap.size w w3) := ⟨B2.out.trans (b_.mono B2.out.size)⟩
 have ga : Keep (w.heap.size ≤ a) := ⟨by rw [ha0.out]; exact B2.out.size⟩
 clear b_
 have nxa : Keep (x ≠ a) := ⟨by have := X2.out.lt; have := ha0.out; omega⟩
 simp only [Act.put, pqA, pqB, pqC]
 refine WL.storeR (by kernel_rfl) 25 (.tmp 3) (.tmp 16) rfl a hh rfl rfl 25 (bytesA 32 fun _ => 0) A3.out (by rw [hhe2.out]; exact Try.size25B _) (by rw [hhe2.out]; exact bytesA_sizes _ _ _) (by rw [hhe2.out]; exact bytesA_one _ _) ?_
 have A4 := Keep.mk (A3.out.setRow hh)
 have B4 : Keep (Below w.heap.size w (w3.setRow a hh)) := ⟨below_setRow B3.out ga.out _⟩
 have X4 := Keep.mk (X3.out.setRow_ne nxa.out hh)
 generalize w3.setRow a hh = w4 at *
 simp only [Act.put]
 refine VlS (.int .i64 0) ?_
 refine WL.nil (hK2 _ _ ?_)
 refine wp_seq_k fun K3 hK3 => ?_
 refine wp_seq_k fun K4 hK4 => rgn ?_
 refine VlS (.int .i64 0) ?_
 refine VbF ?_
 refine WL.nil (hK4 _ _ ?_)
 refine wp_cond_false rfl ?_
 refine wp_skip ?_
 refine hK3 _ _ ?_
 refine wp_seq_k fun K5 hK5 => ?_
 refine wp_seq_k fun K6 hK6 => rgn ?_
 refine VlS (.pointer (some ⟨x, 0, none⟩)) ?_
 have m_ : w4.cell? ⟨x, 0, none⟩ = some (.slice la m cap) := X4.out.c 0 rfl
 refine WL.val (by kernel_rfl) (.slice la m cap) (by go_simp) ?_
 clear m_
 simp only [Act.put, pqA, pqB, pqC]
 refine WL.callF (by kernel_rfl) 18 _ _ rfl Try.in18 #[.slice la m cap] (by simp [Act.eval]) ?_
 refine (wrong_any w.heap.size _ L w4 (HC.out.below B4.out) B4.out.size (by have := HN.out; omega)).mono ?_
 rintro e w5 ⟨rfl, k1⟩
 refine ⟨_, rfl, ?_⟩
 rw [hwi.out]
 have X5 := Keep.mk (X4.out.below k1 X4.out.lt)
 have A5 := Keep.mk (A4.out.below k1 A4.out.lt)
 have B5 : Keep (Below w.heap.size w w5) := ⟨B4.out.trans (k1.mono B4.out.size)⟩
 clear k1
 simp only [Act.put, pqA, pqB, pqC]
 refine VbF ?_
 refine WL.nil (hK6 _ _ ?_)
 refine wp_cond_false rfl ?_
 refine wp_skip ?_
 refine hK5 _ _ ?_
 refine wp_seq_k fun K7 hK7 => rgn ?_
 refine WL.row (by kernel_rfl) 25 (.tmp 3) rfl a rfl 25 hh _ A5.out Try.underlying25 rfl (by rw [hhe2.out]; exact Try.size25B _) ?_
 simp only [Act.put, pqA, pqB, pqC]
 refine VlS (.pointer (some ⟨x, 1, none⟩)) ?_
 have m_ : w5.cell? ⟨x, 1, none⟩ = some (.int .i64 kind) := X5.out.c 1 rfl
 refine WL.val (by kernel_rfl) (.int .i64 kind) (by go_simp) ?_
 clear m_
 simp only [Act.put, pqA, pqB, pqC]
 refine VlS (.pointer (some ⟨x, 2, none⟩)) ?_
 have m_ : w5.cell? ⟨x, 2, none⟩ = some (.string key) := X5.out.c 2 rfl
 refine WL.val (by kernel_rfl) (.string key) (by go_simp) ?_
 clear m_
 simp only [Act.put, pqA, pqB, pqC]
 refine VlS (.pointer (some ⟨x, 3, none⟩)) ?_
 refine WL.midA (by kernel_rfl) 31 (.tmp 37) rfl x 3 rfl (wtA un (.slice ua ul uc)) _ (ask_rng X5.out) Try.underlying31 rfl (by rfl) ?_
 simp only [Act.put, pqA, pqB, pqC]
 have hck := pcheck_any _ un kind key ls root w5 ((HL.out.below B5.out).mono B5.out.size) Hun.out HSl.out
 rw [← hhe2.out] at hck
 refine WL.callF (by kernel_rfl) 15 _ _ rfl Try.in15 #[.agg hh, .int .i64 kind, .string key, .agg (wtA un (.slice ua ul uc))] (by simp [Act.eval]) ?_
 refine (hck).mono ?_
 rintro e w6 ⟨c, rfl, k0, k1, k2, k3⟩
 refine ⟨_, rfl, ?_⟩
 clear hck
 have C6 := Keep.mk k0
 have K2 := Keep.mk k2
 have K3 := Keep.mk k3
 rw [hce.out, hci.out]
 have X6 := Keep.mk (X5.out.below k1 X5.out.lt)
 have A6 := Keep.mk (A5.out.below k1 A5.out.lt)
 have B6 : Keep (Below w.heap.size w w6) := ⟨B5.out.trans (k1.mono B5.out.size)⟩
 clear k0 k1 k2 k3
 simp only [Act.put, pqA, pqB, pqC]
 refine VlS (.tuple #[.agg (cvA c), .bool ci, .int .i64 0]) ?_
 refine VlS (.agg (cvA c)) ?_
 refine VlS (.bool ci) ?_
 refine VlS (.int .i64 0) ?_
 refine WL.new (by kernel_rfl) 40 rfl _ Try.newC ?_
 have Q7 := Keep.mk (Blk.new w6 40 #[.int .i64 0, .string ByteArray.empty, .slice none 0 0])
 have b_ := below_new w6 (.cells #[.int .i64 0, .string ByteArray.empty, .slice none 0 0] 40)
 change WL _ _ _ _ _ (w6.alloc (.cells #[.int .i64 0, .string ByteArray.empty, .slice none 0 0] 40))
 generalize w6.alloc (.cells #[.int .i64 0, .string ByteArray.empty, .slice none 0 0] 40) = w7 at *
 obtain ⟨q, hq0⟩ : ∃ z, Keep (z = w6.heap.size) := ⟨_, ⟨rfl⟩⟩
 rw [← hq0.out] at Q7 ⊢
 have X7 := Keep.mk (X6.out.below b_ X6.out.lt)
 have A7 := Keep.mk (A6.out.below b_ A6.out.lt)
 have B7 : Keep (Below w.heap.size w w7) := ⟨B6.out.trans (b_.mono B6.out.size)⟩
 have gq : Keep (w.heap.size ≤ q) := ⟨by rw [hq0.out]; exact B6.out.size⟩
 have n7 := Keep.mk b_
 clear b_
 have nxq : Keep (x ≠ q) := ⟨by have := X6.out.lt; have := hq0.out; omega⟩
 have naq : Keep (a ≠ q) := ⟨by have := A6.out.lt; have := hq0.out; omega⟩
 simp only [Act.put, pqA, pqB, pqC]
 refine WL.storeR (by kernel_rfl) 40 (.tmp 5) (.tmp 40) rfl q (cvA c) rfl rfl 40 #[.int .i64 0, .string ByteArray.empty, .slice none 0 0] Q7.out (Try.sizeC _ _ _) rfl (cvA_one1 C6.out) ?_
 have Q8 := Keep.mk (Q7.out.setRow (cvA c))
 have B8 : Keep (Below w.heap.size w (w7.setRow q (cvA c))) := ⟨below_setRow B7.out gq.out _⟩
 have X8 := Keep.mk (X7.out.setRow_ne nxq.out (cvA c))
 have A8 := Keep.mk (A7.out.setRow_ne naq.out (cvA c))
 have C8 : Keep (RowAt (w7.setRow q (cvA c)) c.v c.l) := ⟨C6.out.below (below_setRow n7.out (by rw [hq0.out]; exact Nat.le_refl _) _)⟩
 generalize w7.setRow q (cvA c) = w8 at *
 simp only [Act.put]
 refine VlS (.bool ci) ?_
 refine VlS (.int .i64 0) ?_
 refine WL.nil (hK7 _ _ ?_)
 refine wp_seq_k fun K8 hK8 => ?_
 refine wp_seq_k fun K9 hK9 => rgn ?_
 refine VlS (.int .i64 0) ?_
 refine VbF ?_
 refine WL.nil (hK9 _ _ ?_)
 refine wp_cond_false rfl ?_
 refine wp_skip ?_
 refine hK8 _ _ ?_
 refine wp_seq_k fun K10 hK10 => rgn ?_
 refine VlS (.pointer (some ⟨x, 0, none⟩)) ?_
 have m_ : w8.cell? ⟨x, 0, none⟩ = some (.slice la m cap) := X8.out.c 0 rfl
 refine WL.val (by kernel_rfl) (.slice la m cap) (by go_simp) ?_
 clear m_
 simp only [Act.put, pqA, pqB, pqC]
 refine VlS (.pointer (some ⟨x, 1, none⟩)) ?_
 have m_ : w8.cell? ⟨x, 1, none⟩ = some (.int .i64 kind) := X8.out.c 1 rfl
 refine WL.val (by kernel_rfl) (.int .i64 kind) (by go_simp) ?_
 clear m_
 simp only [Act.put, pqA, pqB, pqC]
 refine VlS (.pointer (some ⟨x, 2, none⟩)) ?_
 have m_ : w8.cell? ⟨x, 2, none⟩ = some (.string key) := X8.out.c 2 rfl
 refine WL.val (by kernel_rfl) (.string key) (by go_simp) ?_
 clear m_
 simp only [Act.put, pqA, pqB, pqC]
 refine WL.callF (by kernel_rfl) 12 _ _ rfl Try.in12 #[.slice la m cap, .int .i64 kind, .string key] (by simp [Act.eval]) ?_
 refine (fd_any _ L kind key at_ w8 ((HC.out.below B8.out).mono B8.out.size) HS.out HN.out HA.out HAt.out).mono ?_
 rintro e w9 ⟨n1, v1, ls1, e1, rfl, k0, k1, k2, k3, k4⟩
 refine ⟨_, rfl, ?_⟩
 have S1 := Keep.mk k0
 have F1 := Keep.mk (And.intro k2 (And.intro k3 k4))
 obtain ⟨va1, vl1, vc1, hv1⟩ : ∃ a n c, v1 = .slice a n c := by
  rcases k0 with ⟨a, c, h, _⟩ | ⟨g, o, c, h, _⟩
  ·exact ⟨_, _, _, h⟩
  ·exact ⟨_, _, _, h⟩
 subst hv1
 have b1 := Keep.mk k1
 have X9 := Keep.mk (X8.out.below k1 X8.out.lt)
 have A9 := Keep.mk (A8.out.below k1 A8.out.lt)
 have Q9 := Keep.mk (Q8.out.below k1 Q8.out.lt)
 have B9 : Keep (Below w.heap.size w w9) := ⟨B8.out.trans (k1.mono B8.out.size)⟩
 have C9 := Keep.mk (C8.out.below k1)
 clear k0 k1 k2 k3 k4
 obtain ⟨-, he1, -, -⟩ := F1.out.2.2 hkm hwi.out
 obtain rfl := he1
 simp only [Act.put, pqA, pqB, pqC]
 refine VlS (.tuple #[.agg (wtA n1 (.slice va1 vl1 vc1)), .int .i64 0]) ?_
 refine VlS (.agg (wtA n1 (.slice va1 vl1 vc1))) ?_
 refine VlS (.int .i64 0) ?_
 refine WL.new (by kernel_rfl) 31 rfl _ Try.newW ?_
 have P10 := Keep.mk (Blk.new w9 31 #[.int .i64 0, .slice none 0 0])
 have b_ := below_new w9 (.cells #[.int .i64 0, .slice none 0 0] 31)
 change WL _ _ _ _ _ (w9.alloc (.cells #[.int .i64 0, .slice none 0 0] 31))
 generalize w9.alloc (.cells #[.int .i64 0, .slice none 0 0] 31) = w10 at *
 obtain ⟨p, hp0⟩ : ∃ z, Keep (z = w9.heap.size) := ⟨_, ⟨rfl⟩⟩
 rw [← hp0.out] at P10 ⊢
 have X10 := Keep.mk (X9.out.below b_ X9.out.lt)
 have A10 := Keep.mk (A9.out.below b_ A9.out.lt)
 have Q10 := Keep.mk (Q9.out.below b_ Q9.out.lt)
 have B10 : Keep (Below w.heap.size w w10) := ⟨B9.out.trans (b_.mono B9.out.size)⟩
 have gp : Keep (w.heap.size ≤ p) := ⟨by rw [hp0.out]; exact B9.out.size⟩
 have n10 := Keep.mk b_
 clear b_
 have nxp : Keep (x ≠ p) := ⟨by have := X9.out.lt; have := hp0.out; omega⟩
 have nap : Keep (a ≠ p) := ⟨by have := A9.out.lt; have := hp0.out; omega⟩
 have nqp : Keep (q ≠ p) := ⟨by have := Q9.out.lt; have := hp0.out; omega⟩
 simp only [Act.put, pqA, pqB, pqC]
 refine WL.storeR (by kernel_rfl) 31 (.tmp 8) (.tmp 63) rfl p (wtA n1 (.slice va1 vl1 vc1)) rfl rfl 31 #[.int .i64 0, .slice none 0 0] P10.out (by rfl) rfl (by simp [wtA, Value.oneCell']) ?_
 have P11 := Keep.mk (P10.out.setRow (wtA n1 (.slice va1 vl1 vc1)))
 have B11 : Keep (Below w.heap.size w (w10.setRow p (wtA n1 (.slice va1 vl1 vc1)))) := ⟨below_setRow B10.out gp.out _⟩
 have X11 := Keep.mk (X10.out.setRow_ne nxp.out (wtA n1 (.slice va1 vl1 vc1)))
 have A11 := Keep.mk (A10.out.setRow_ne nap.out (wtA n1 (.slice va1 vl1 vc1)))
 have Q11 := Keep.mk (Q10.out.setRow_ne nqp.out (wtA n1 (.slice va1 vl1 vc1)))
 have b11 := below_setRow n10.out (by rw [hp0.out]; exact Nat.le_refl _ : w9.heap.size ≤ p) (wtA n1 (.slice va1 vl1 vc1))
 have T11 : Keep (LsV (w10.setRow p (wtA n1 (.slice va1 vl1 vc1))).heap.size (w10.setRow p (wtA n1 (.slice va1 vl1 vc1))) (.slice va1 vl1 vc1) ls1) := ⟨(S1.out.below b11).mono b11.size⟩
 have C11 := Keep.mk (C9.out.below b11)
 clear b11
 generalize w10.setRow p (wtA n1 (.slice va1 vl1 vc1)) = w11 at *
 simp only [Act.put]
 refine VlS (.int .i64 0) ?_
 refine WL.nil (hK10 _ _ ?_)
 refine wp_seq_k fun K11 hK11 => rgn ?_
 refine VlS (.pointer (some ⟨x, 0, none⟩)) ?_
 have m_ : w11.cell? ⟨x, 0, none⟩ = some (.slice la m cap) := X11.out.c 0 rfl
 refine WL.val (by kernel_rfl) (.slice la m cap) (by go_simp) ?_
 clear m_
 simp only [Act.put, pqA, pqB, pqC]
 refine VlS (.pointer (some ⟨x, 1, none⟩)) ?_
 have m_ : w11.cell? ⟨x, 1, none⟩ = some (.int .i64 kind) := X11.out.c 1 rfl
 refine WL.val (by kernel_rfl) (.int .i64 kind) (by go_simp) ?_
 clear m_
 simp only [Act.put, pqA, pqB, pqC]
 refine VlS (.pointer (some ⟨x, 2, none⟩)) ?_
 have m_ : w11.cell? ⟨x, 2, none⟩ = some (.string key) := X11.out.c 2 rfl
 refine WL.val (by kernel_rfl) (.string key) (by go_simp) ?_
 clear m_
 simp only [Act.put, pqA, pqB, pqC]
 refine WL.callF (by kernel_rfl) 19 _ _ rfl Try.in19 #[.slice la m cap, .int .i64 kind, .string key] (by simp [Act.eval]) ?_
 refine (st_any _ L kind key w11 ((HC.out.below B11.out).mono B11.out.size) HN.out).mono ?_
 rintro e w12 ⟨d, yes, rfl, k0, k1, k2, k3⟩
 refine ⟨_, rfl, ?_⟩
 have D12 := Keep.mk k0
 have C12 := Keep.mk (C11.out.below k1)
 have T12 := Keep.mk ((T11.out.below k1).mono k1.size)
 have HY := Keep.mk (And.intro k2 k3)
 have X12 := Keep.mk (X11.out.below k1 X11.out.lt)
 have A12 := Keep.mk (A11.out.below k1 A11.out.lt)
 have Q12 := Keep.mk (Q11.out.below k1 Q11.out.lt)
 have P12 := Keep.mk (P11.out.below k1 P11.out.lt)
 have B12 : Keep (Below w.heap.size w w12) := ⟨B11.out.trans (k1.mono B11.out.size)⟩
 clear k0 k1 k2 k3
 simp only [Act.put, pqA, pqB, pqC]
 refine VlS (.tuple #[.agg (cvA d), .bool yes]) ?_
 refine VlS (.agg (cvA d)) ?_
 refine VlS (.bool yes) ?_
 refine WL.new (by kernel_rfl) 40 rfl _ Try.newC ?_
 have S13 := Keep.mk (Blk.new w12 40 #[.int .i64 0, .string ByteArray.empty, .slice none 0 0])
 have b_ := below_new w12 (.cells #[.int .i64 0, .string ByteArray.empty, .slice none 0 0] 40)
 change WL _ _ _ _ _ (w12.alloc (.cells #[.int .i64 0, .string ByteArray.empty, .slice none 0 0] 40))
 generalize w12.alloc (.cells #[.int .i64 0, .string ByteArray.empty, .slice none 0 0] 40) = w13 at *
 obtain ⟨s, hs0⟩ : ∃ z, Keep (z = w12.heap.size) := ⟨_, ⟨rfl⟩⟩
 rw [← hs0.out] at S13 ⊢
 have X13 := Keep.mk (X12.out.below b_ X12.out.lt)
 have A13 := Keep.mk (A12.out.below b_ A12.out.lt)
 have Q13 := Keep.mk (Q12.out.below b_ Q12.out.lt)
 have P13 := Keep.mk (P12.out.below b_ P12.out.lt)
 have B13 : Keep (Below w.heap.size w w13) := ⟨B12.out.trans (b_.mono B12.out.size)⟩
 have gs : Keep (w.heap.size ≤ s) := ⟨by rw [hs0.out]; exact B12.out.size⟩
 have n13 := Keep.mk b_
 clear b_
 have nxs : Keep (x ≠ s) := ⟨by have := X12.out.lt; have := hs0.out; omega⟩
 have nas : Keep (a ≠ s) := ⟨by have := A12.out.lt; have := hs0.out; omega⟩
 have nqs : Keep (q ≠ s) := ⟨by have := Q12.out.lt; have := hs0.out; omega⟩
 have nps : Keep (p ≠ s) := ⟨by have := P12.out.lt; have := hs0.out; omega⟩
 simp only [Act.put, pqA, pqB, pqC]
 refine WL.storeR (by kernel_rfl) 40 (.tmp 10) (.tmp 73) rfl s (cvA d) rfl rfl 40 #[.int .i64 0, .string ByteArray.empty, .slice none 0 0] S13.out (Try.sizeC _ _ _) rfl (cvA_one1 D12.out) ?_
 have S14 := Keep.mk (S13.out.setRow (cvA d))
 have B14 : Keep (Below w.heap.size w (w13.setRow s (cvA d))) := ⟨below_setRow B13.out gs.out _⟩
 have X14 := Keep.mk (X13.out.setRow_ne nxs.out (cvA d))
 have A14 := Keep.mk (A13.out.setRow_ne nas.out (cvA d))
 have Q14 := Keep.mk (Q13.out.setRow_ne nqs.out (cvA d))
 have P14 := Keep.mk (P13.out.setRow_ne nps.out (cvA d))
 have b14 := below_setRow n13.out (by rw [hs0.out]; exact Nat.le_refl _ : w12.heap.size ≤ s) (cvA d)
 have C14 := Keep.mk (C12.out.below b14)
 have D14 := Keep.mk (D12.out.below b14)
 have T14 := Keep.mk ((T12.out.below b14).mono b14.size)
 clear b14
 generalize w13.setRow s (cvA d) = w14 at *
 simp only [Act.put]
 refine VlS (.bool yes) ?_
 refine WL.nil (hK11 _ _ ?_)
 refine wp_seq_k fun K12 hK12 => ?_
 refine wp_seq_k fun K13 hK13 => ?_
 have HSz := Keep.mk (fd_sizes HN.out HA.out F1.out.1 F1.out.2.1 F1.out.2.2)
 have rest11 : ∀ (y75 y76 y77 y78 y79 y80 y81 y82 y83 y84 y85 y86 y87 y88 y89 y90 y91 : Value) (tb : Bool) (wX : World), Blk wX a 25 hh → Blk wX x 46 #[.slice la m cap, .int .i64 kind, .string key, .int .i64 un, .slice ua ul uc] → Below w.heap.size w wX → K13 { tmps := #[.agg #[.slice la m cap, .int .i64 kind, .string key, .int .i64 un, .slice ua ul uc], .pointer (some ⟨x, 0, none⟩), .bool false, .pointer (some ⟨a, 0, none⟩), .int .i64 0, .pointer (some ⟨q, 0, none⟩), .bool ci, .int .i64 0, .pointer (some ⟨p, 0, none⟩), .int .i64 0, .pointer (some ⟨s, 0, none⟩), .bool yes, .tuple #[.agg hh, .int .i64 0], .pointer (some ⟨x, 0, none⟩), .slice la m cap, .tuple #[.agg hh, .int .i64 0], .agg hh, .int .i64 0, .int .i64 0, .bool false, undef, undef, undef, undef, undef, undef, undef, .pointer (some ⟨x, 0, none⟩), .slice la m cap, .int .i64 0, .bool false, .tuple #[.agg (cvA c), .bool ci, .int .i64 0], .agg hh, .pointer (some ⟨x, 1, none⟩), .int .i64 kind, .pointer (some ⟨x, 2, none⟩), .string key, .pointer (some ⟨x, 3, none⟩), .agg (wtA un (.slice ua ul uc)), .tuple #[.agg (cvA c), .bool ci, .int .i64 0], .agg (cvA c), .bool ci, .int .i64 0, .int .i64 0, .bool false, undef, undef, undef, undef, undef, undef, undef, undef, undef, undef, .tuple #[.agg (wtA n1 (.slice va1 vl1 vc1)), .int .i64 0], .pointer (some ⟨x, 0, none⟩), .slice la m cap, .pointer (some ⟨x, 1, none⟩), .int .i64 kind, .pointer (some ⟨x, 2, none⟩), .string key, .tuple #[.agg (wtA n1 (.slice va1 vl1 vc1)), .int .i64 0], .agg (wtA n1 (.slice va1 vl1 vc1)), .int .i64 0, .tuple #[.agg (cvA d), .bool yes], .pointer (some ⟨x, 0, none⟩), .slice la m cap, .pointer (some ⟨x, 1, none⟩), .int .i64 kind, .pointer (some ⟨x, 2, none⟩), .string key, .tuple #[.agg (cvA d), .bool yes], .agg (cvA d), .bool yes, y75, y76, y77, y78, y79, y80, y81, y82, y83, y84, y85, y86, y87, y88, y89, y90, y91, .bool tb, undef, undef, undef, undef, undef, undef, undef, undef, undef, undef, undef, undef, undef, undef], defers := [] } wX := by
  intro y75 y76 y77 y78 y79 y80 y81 y82 y83 y84 y85 y86 y87 y88 y89 y90 y91 tb wX ha hx hb
  have AX := Keep.mk ha
  have XX := Keep.mk hx
  have BX := Keep.mk hb
  clear ha hx hb
  refine hK13 _ _ ?_
  cases tb
  ·skip
   refine wp_cond_false rfl ?_
   refine wp_skip ?_
   refine hK12 _ _ ?_
   refine wp_seq_k fun K14 hK14 => rgn ?_
   refine VlS (.pointer (some ⟨x, 0, none⟩)) ?_
   have m_ : wX.cell? ⟨x, 0, none⟩ = some (.slice la m cap) := XX.out.c 0 rfl
   refine WL.val (by kernel_rfl) (.slice la m cap) (by go_simp) ?_
   clear m_
   simp only [Act.put, pqA, pqB, pqC]
   refine WL.row (by kernel_rfl) 25 (.tmp 3) rfl a rfl 25 hh _ AX.out Try.underlying25 rfl (by rw [hhe2.out]; exact Try.size25B _) ?_
   simp only [Act.put, pqA, pqB, pqC]
   refine VlS (.pointer (some ⟨x, 1, none⟩)) ?_
   have m_ : wX.cell? ⟨x, 1, none⟩ = some (.int .i64 kind) := XX.out.c 1 rfl
   refine WL.val (by kernel_rfl) (.int .i64 kind) (by go_simp) ?_
   clear m_
   simp only [Act.put, pqA, pqB, pqC]
   refine VlS (.pointer (some ⟨x, 2, none⟩)) ?_
   have m_ : wX.cell? ⟨x, 2, none⟩ = some (.string key) := XX.out.c 2 rfl
   refine WL.val (by kernel_rfl) (.string key) (by go_simp) ?_
   clear m_
   simp only [Act.put, pqA, pqB, pqC]
   refine VlS (.pointer (some ⟨x, 3, none⟩)) ?_
   refine WL.midA (by kernel_rfl) 31 (.tmp 101) rfl x 3 rfl (wtA un (.slice ua ul uc)) _ (ask_rng XX.out) Try.underlying31 rfl (by rfl) ?_
   simp only [Act.put, pqA, pqB, pqC]
   have hcl := clash_any _ _ L un kind key ls root wX ((HC.out.below BX.out).mono BX.out.size) HF.out HBy.out HN5.out ((HL.out.below BX.out).mono BX.out.size) Hun.out HSp.out HBl.out hce.out
   rw [← hhe2.out] at hcl
   refine WL.callF (by kernel_rfl) 20 _ _ rfl Try.in20 #[.slice la m cap, .agg hh, .int .i64 kind, .string key, .agg (wtA un (.slice ua ul uc))] (by simp [Act.eval]) ?_
   refine (hcl).mono ?_
   rintro e wZ ⟨bb, rfl, k0, k1⟩
   refine ⟨_, rfl, ?_⟩
   clear hcl
   obtain rfl : bb = true := k0 Hcl.out
   have BZ : Keep (Below w.heap.size w wZ) := ⟨BX.out.trans (k1.mono BX.out.size)⟩
   clear k0 k1
   simp only [Act.put, pqA, pqB, pqC]
   refine VbT ?_
   refine WL.callF (by kernel_rfl) 9 _ _ rfl Try.in9 #[] (by simp) ?_
   refine (fixed_any wZ).mono ?_
   rintro e wY ⟨rfl, k1⟩
   refine ⟨_, rfl, ?_⟩
   have BY : Keep (Below w.heap.size w wY) := ⟨BZ.out.trans (k1.mono BZ.out.size)⟩
   clear k1
   simp only [Act.put, pqA, pqB, pqC]
   refine VbT ?_
   refine VbT ?_
   refine WL.nil (hK14 _ _ ?_)
   refine wp_ret ?_
   go_ret
   exact ⟨rfl, BY.out⟩
  ·skip
   refine wp_cond_true rfl ?_
   refine wp_seq_k fun K15 hK15 => rgn ?_
   refine WL.callF (by kernel_rfl) 9 _ _ rfl Try.in9 #[] (by simp) ?_
   refine (fixed_any wX).mono ?_
   rintro e wY ⟨rfl, k1⟩
   refine ⟨_, rfl, ?_⟩
   have BY : Keep (Below w.heap.size w wY) := ⟨BX.out.trans (k1.mono BX.out.size)⟩
   clear k1
   simp only [Act.put, pqA, pqB, pqC]
   refine VbT ?_
   refine WL.nil (hK15 _ _ ?_)
   refine wp_ret ?_
   go_ret
   exact ⟨rfl, BY.out⟩
 by_cases hcy : ci = yes
 ·have hcy' : (ci == yes) = true := by simpa using hcy
  cases hsc : sameC c d
  ·have HSa := Keep.mk hsc
   clear hsc
   refine rgn ?_
   refine VlS (.int .i64 0) ?_
   refine VbT ?_
   refine VbT ?_
   refine VlS (.bool ci) ?_
   refine VlS (.bool yes) ?_
   refine VbT ?_
   refine VbT ?_
   refine VbT ?_
   refine WL.row (by kernel_rfl) 40 (.tmp 5) rfl q rfl 40 (cvA c) _ Q14.out Try.underlying40 rfl (Try.sizeC _ _ _) ?_
   simp only [Act.put, pqA, pqB, pqC]
   refine WL.row (by kernel_rfl) 40 (.tmp 10) rfl s rfl 40 (cvA d) _ S14.out Try.underlying40 rfl (Try.sizeC _ _ _) ?_
   simp only [Act.put, pqA, pqB, pqC]
   refine WL.callF (by kernel_rfl) 17 _ _ rfl Try.in17 #[.agg (cvA c), .agg (cvA d)] (by simp [Act.eval]) ?_
   refine (sameC_any c d w14 C14.out D14.out).mono ?_
   rintro e w15 ⟨rfl, k1⟩
   refine ⟨_, rfl, ?_⟩
   rw [HSa.out]
   have T15 := Keep.mk ((T14.out.below k1).mono k1.size)
   have X15 := Keep.mk (X14.out.below k1 X14.out.lt)
   have A15 := Keep.mk (A14.out.below k1 A14.out.lt)
   have P15 := Keep.mk (P14.out.below k1 P14.out.lt)
   have B15 : Keep (Below w.heap.size w w15) := ⟨B14.out.trans (k1.mono B14.out.size)⟩
   clear k1
   simp only [Act.put, pqA, pqB, pqC]
   refine VbF ?_
   refine VbF ?_
   refine SkS ?_
   refine SkS ?_
   refine SkS ?_
   refine SkS ?_
   refine VbF ?_
   refine WL.nil ?_
   exact rest11 _ _ _ _ _ _ _ _ _ _ _ _ _ _ _ _ _ _ _ A15.out X15.out B15.out
  ·have HSa := Keep.mk hsc
   clear hsc
   refine rgn ?_
   refine VlS (.int .i64 0) ?_
   refine VbT ?_
   refine VbT ?_
   refine VlS (.bool ci) ?_
   refine VlS (.bool yes) ?_
   refine VbT ?_
   refine VbT ?_
   refine VbT ?_
   refine WL.row (by kernel_rfl) 40 (.tmp 5) rfl q rfl 40 (cvA c) _ Q14.out Try.underlying40 rfl (Try.sizeC _ _ _) ?_
   simp only [Act.put, pqA, pqB, pqC]
   refine WL.row (by kernel_rfl) 40 (.tmp 10) rfl s rfl 40 (cvA d) _ S14.out Try.underlying40 rfl (Try.sizeC _ _ _) ?_
   simp only [Act.put, pqA, pqB, pqC]
   refine WL.callF (by kernel_rfl) 17 _ _ rfl Try.in17 #[.agg (cvA c), .agg (cvA d)] (by simp [Act.eval]) ?_
   refine (sameC_any c d w14 C14.out D14.out).mono ?_
   rintro e w15 ⟨rfl, k1⟩
   refine ⟨_, rfl, ?_⟩
   rw [HSa.out]
   have T15 := Keep.mk ((T14.out.below k1).mono k1.size)
   have X15 := Keep.mk (X14.out.below k1 X14.out.lt)
   have A15 := Keep.mk (A14.out.below k1 A14.out.lt)
   have P15 := Keep.mk (P14.out.below k1 P14.out.lt)
   have B15 : Keep (Below w.heap.size w w15) := ⟨B14.out.trans (k1.mono B14.out.size)⟩
   clear k1
   simp only [Act.put, pqA, pqB, pqC]
   refine VbT ?_
   refine VbT ?_
   refine WL.row (by kernel_rfl) 31 (.tmp 8) rfl p rfl 31 (wtA n1 (.slice va1 vl1 vc1)) _ P15.out Try.underlying31 rfl (by rfl) ?_
   simp only [Act.put, pqA, pqB, pqC]
   refine VlS (.pointer (some ⟨x, 3, none⟩)) ?_
   refine WL.midA (by kernel_rfl) 31 (.tmp 89) rfl x 3 rfl (wtA un (.slice ua ul uc)) _ (ask_rng X15.out) Try.underlying31 rfl (by rfl) ?_
   simp only [Act.put, pqA, pqB, pqC]
   refine WL.callF (by kernel_rfl) 14 _ _ rfl Try.in14 #[.agg (wtA n1 (.slice va1 vl1 vc1)), .agg (wtA un (.slice ua ul uc))] (by simp [Act.eval]) ?_
   refine (sw_any _ _ n1 un ls1 ls w15 T15.out ((HL.out.below B15.out).mono B15.out.size) (by have := HSz.out.1; omega) HSz.out.2).mono ?_
   rintro e w16 ⟨sb, rfl, k0, k1⟩
   refine ⟨_, rfl, ?_⟩
   have X16 := Keep.mk (X15.out.below k1 X15.out.lt)
   have A16 := Keep.mk (A15.out.below k1 A15.out.lt)
   have B16 : Keep (Below w.heap.size w w16) := ⟨B15.out.trans (k1.mono B15.out.size)⟩
   clear k0 k1
   simp only [Act.put, pqA, pqB, pqC]
   refine VlS (.bool sb) ?_
   refine WL.nil ?_
   exact rest11 _ _ _ _ _ _ _ _ _ _ _ _ _ _ _ _ _ _ _ A16.out X16.out B16.out
 ·have hcy' : (ci == yes) = false := by simpa using hcy
  refine rgn ?_
  refine VlS (.int .i64 0) ?_
  refine VbT ?_
  refine VbT ?_
  refine VlS (.bool ci) ?_
  refine VlS (.bool yes) ?_
  refine VbF ?_
  refine VbF ?_
  refine VbF ?_
  refine SkS ?_
  refine SkS ?_
  refine SkS ?_
  refine VbF ?_
  refine VbF ?_
  refine SkS ?_
  refine SkS ?_
  refine SkS ?_
  refine SkS ?_
  refine VbF ?_
  refine WL.nil ?_
  exact rest11 _ _ _ _ _ _ _ _ _ _ _ _ _ _ _ _ _ _ _ A14.out X14.out B14.out
theorem true_any (v u : Value) (L : List CV) (ls : List LV) (kind un : Int) (key : ByteArray) (w : World) (hC : CsV w.heap.size w v L) (hL : LsV w.heap.size w u ls) (hS : Sml L) (hN : L.length ≤ 549755813888) (hB : ∀ c ∈ L, Byts c.l) (hn : un < 9223372036854775808) (hSp : SmP ls) (hBl : ∀ x ∈ ls, Byts x.c.l) :
  Calls Try.prog 7 #[.agg #[v, .int .i64 kind, .string key, .int .i64 un, u]] w fun e w' => e = .returned (.bool true) ∧ Below w.heap.size w w' := by
 obtain ⟨ua, ul, uc, rfl⟩ : ∃ a n c, u = .slice a n c := by
  rcases hL with ⟨a, c, h, _⟩ | ⟨g, o, c, h, _⟩
  ·exact ⟨_, _, _, h⟩
  ·exact ⟨_, _, _, h⟩
 obtain ⟨la, cap, rfl⟩ : ∃ la cap, v = .slice la L.length cap := by
  rcases hC with ⟨a, c, rfl, rfl⟩ | ⟨b, off, cap, rfl, _⟩
  ·exact ⟨a, c, rfl⟩
  ·exact ⟨_, cap, rfl⟩
 have hSl : SmL ls := fun x hx => ⟨(hSp x hx).1, by have := (hSp x hx).2; omega⟩
 by_cases hW : wrongI L = 0
 ·obtain ⟨a, h1, h2⟩ := at_of kind key hW
  have hF := fit_of (okK_of hW) hS
  have hh2 : bytesA 32 (rootF L) = bytesA 32 (shaH (rootL L)).f := by unfold rootF; rw [if_pos hW]; exact bytesA_congr fun i hi => (shaH_f _ i hi).symm
  by_cases hE : chkE (shaH (rootL L)) un kind key ls = 0
  ·obtain ⟨hk, h | h⟩ := true_pure hW hF (by omega) hn rfl hSl h1 h2 hE
   ·exact true_yes la _ cap ua ul uc L ls kind un key a _ w ⟨hC⟩ ⟨hL⟩ ⟨hS⟩ ⟨by omega⟩ ⟨rfl⟩ _ ⟨hW⟩ ⟨hh2⟩ ⟨hn⟩ ⟨hSl⟩ _ ⟨hE⟩ ⟨rfl⟩ hk ⟨h1⟩ ⟨fun _ => h2⟩ ⟨rfl⟩ ⟨h⟩
   ·exact true_cl la _ cap ua ul uc L ls kind un key a _ w ⟨hC⟩ ⟨hL⟩ ⟨hS⟩ ⟨by omega⟩ ⟨rfl⟩ _ ⟨hW⟩ ⟨hh2⟩ ⟨hn⟩ ⟨hSl⟩ _ ⟨hE⟩ ⟨rfl⟩ hk ⟨h1⟩ ⟨fun _ => h2⟩ ⟨hF⟩ ⟨hB⟩ ⟨hN⟩ ⟨hSp⟩ ⟨hBl⟩ ⟨h⟩
  ·exact true_no la _ cap ua ul uc L ls kind un key a _ w ⟨hC⟩ ⟨hL⟩ ⟨hS⟩ ⟨by omega⟩ ⟨rfl⟩ _ ⟨hW⟩ ⟨hh2⟩ ⟨hn⟩ ⟨hSl⟩ _ _ ⟨rfl⟩ ⟨rfl⟩ hE (by simpa using hE)
 ·exact true_bad la _ cap ua ul uc L ls kind un key 0 _ w ⟨hC⟩ ⟨hL⟩ ⟨hS⟩ ⟨by omega⟩ ⟨rfl⟩ _ ⟨rfl⟩ (by simpa using hW)

end Go.Proofs.Ytjklmkeedhgncaa
namespace Go.Proofs.Ytjklmkeedhgncaa
open Go.ChangeShapes Go.WideShapes Go.ChangeAt Go.RowKit Go.Deep
set_option linter.unusedSimpArgs false
set_option linter.unusedVariables false
theorem Try.cellsOf3 : Try.prog.cellsOf 3 = 1 := by kernel_rfl
theorem Try.cellsOf9 : Try.prog.cellsOf 9 = 1 := by kernel_rfl
theorem Try.cellsOf5 : Try.prog.cellsOf 5 = 1 := by kernel_rfl
theorem Try.cellsOf38 : Try.prog.cellsOf 38 = 1 := by kernel_rfl
theorem Try.cellsOf67 : Try.prog.cellsOf 67 = 1 := by kernel_rfl
theorem Try.cellsOf25 : Try.prog.cellsOf 25 = 32 := by kernel_rfl
theorem Try.cellsOf40 : Try.prog.cellsOf 40 = 3 := by kernel_rfl
theorem Try.bytesOf5 : Try.prog.bytesOf 5 = 1 := by kernel_rfl
theorem reach_is : reachBytes = 140737488351232 := by decide
theorem add_none' (b o i : Nat) : (⟨b, o, none⟩ : Addr).add i = ⟨b, o + i, none⟩ := by
 cases i with
 | zero => rfl
 | succ i => rfl
theorem wf_u8 {n : Int} (h : (Lit.int .u8 n).wf = true) : 0 ≤ n ∧ n < 256 := by
 have h1 : IntKind.u8.min = 0 := by decide
 have h2 : IntKind.u8.max = 255 := by decide
 simp only [Lit.wf, h1, h2, Bool.and_eq_true, decide_eq_true_eq] at h
 omega
theorem wf_i64 {n : Int} (h : (Lit.int .i64 n).wf = true) : -9223372036854775808 ≤ n ∧ n ≤ 9223372036854775807 := by
 have h1 : IntKind.i64.min = -9223372036854775808 := by decide
 have h2 : IntKind.i64.max = 9223372036854775807 := by decide
 simp only [Lit.wf, h1, h2, Bool.and_eq_true, decide_eq_true_eq] at h
 omega

theorem row_of_trod {H : Type} {enc : TypeId × Value → H} {W : World} {sp : Nat → Bool} {held : Bool} {n base : Nat} {v : Value} {x : DataW H × List MemPlace} (hf : DataW.trod enc Try.prog W base sp held n 38 [v] = some x) (hw : ∀ n ∈ x.1.weights Try.prog 38, n ≤ reachBytes) :
  ∃ l : List Int, RowAt W v l ∧ Byts l ∧ l.length ≤ 140737488351232 := by
 rcases open_ints Try.underlying38 Try.underlying5 Try.cellsOf5 hf with ⟨hcs, _⟩ | ⟨a, len, cap, zs, hcs, _, hl, hm, hz, hx, hcell, hwz⟩
 ·simp at hcs
  subst hcs
  exact ⟨[], .inl ⟨rfl, rfl⟩, Byts.nil, by simp⟩
 ·simp at hcs
  subst hcs
  unfold maxLen at hm
  have hlz : len ≤ zs.length := by rw [hz]; split <;> omega
  have hbz : Byts zs := fun c hc => wf_u8 (hwz c hc)
  have hb : len ≤ 140737488351232 := by
   have h1 := hw ((zs.take len).length + (zs.drop len).length) (by
    rw [hx]
    simp only [DataW.weights, Try.underlying38]
    simp [lits, Try.bytesOf5])
   rw [List.length_take, reach_is] at h1
   omega
  by_cases h0 : len = 0
  ·subst h0
   exact ⟨[], .inr (.inl ⟨a, cap, rfl, rfl⟩), Byts.nil, by simp⟩
  ·have hs : a.spot = none := by
    have := hcell 0 (by omega)
    rw [show a.add 0 = a from rfl] at this
    exact World.cell?_spot this
   obtain ⟨b, off, sp⟩ := a
   obtain rfl : sp = none := hs
   have hlen : (zs.take len).length = len := by rw [List.length_take]; omega
   refine ⟨zs.take len, .inr (.inr ⟨b, off, cap, by rw [hlen], by omega, fun i hi => ?_⟩), hbz.take len, by omega⟩
   rw [hlen] at hi
   have := hcell i (by omega)
   rw [add_none'] at this
   rw [this]
   simp [List.getD, hi]
theorem trod_struct3 {H : Type} {enc : TypeId × Value → H} {P : Program} {w : World} {base : Nat} {spare : Nat → Bool} {held : Bool} {t : TypeId} {f0 f1 f2 : Field} {fuel : Nat} {cs : List Value} {x : DataW H × List MemPlace} (ht : P.underlying t = some (.struct #[f0, f1, f2])) (h : DataW.trod enc P w base spare held fuel t cs = some x) :
  ∃ y0 y1 y2 n, x.1 = .agg [y0.1, y1.1, y2.1] ∧ cs.length = P.cellsOf t ∧ DataW.trod enc P w base spare held n f0.type ((cs.drop f0.offset).take (P.cellsOf f0.type)) = some y0 ∧
   DataW.trod enc P w base spare held n f1.type ((cs.drop f1.offset).take (P.cellsOf f1.type)) = some y1 ∧ DataW.trod enc P w base spare held n f2.type ((cs.drop f2.offset).take (P.cellsOf f2.type)) = some y2 := by
 obtain ⟨xs, n, _, rfl, hl, hlen, hf⟩ := DataW.trod_struct ht h
 match xs, hlen with
 | [y0, y1, y2], _ => exact ⟨y0, y1, y2, n, by simp, hl, by simpa using hf 0 f0 rfl, by simpa using hf 1 f1 rfl, by simpa using hf 2 f2 rfl⟩
theorem take_one {l : List Value} {i : Nat} {v : Value} (h : (l.drop i).take 1 = [v]) : l[i]? = some v := by
 have h2 : ((l.drop i).take 1)[0]? = some v := by rw [h]; rfl
 rw [List.getElem?_take, if_pos (by omega), List.getElem?_drop] at h2
 simpa using h2
theorem hash_of_trod {H : Type} {enc : TypeId × Value → H} {W : World} {sp : Nat → Bool} {held : Bool} {n base : Nat} {l : List Value} {x : DataW H × List MemPlace} (hf : DataW.trod enc Try.prog W base sp held n 25 l = some x) :
  ∃ c : Nat → Int, l = (bytesA 32 c).toList ∧ ∀ i, i < 32 → 0 ≤ c i ∧ c i < 256 := by
 obtain ⟨xs, m, _, _, hl, hx, hel⟩ := DataW.trod_array Try.underlying25 hf
 rw [Try.cellsOf25] at hl
 rw [Try.cellsOf5] at hel
 have each : ∀ i, i < 32 → ∃ z : Int, l[i]? = some (.int .u8 z) ∧ 0 ≤ z ∧ z < 256 := by
  intro i hi
  have h1 := hel i hi
  rw [List.getElem?_eq_getElem (by omega), Nat.mul_one] at h1
  obtain ⟨z, hz, _, hw⟩ := DataW.trod_int Try.underlying5 h1
  have hb := wf_u8 hw
  exact ⟨z, take_one hz, by omega, by omega⟩
 obtain ⟨c, hc⟩ := Go.Deep.choose_lt each
 refine ⟨c, ?_, fun i hi => (hc i hi).2⟩
 apply List.ext_getElem?
 intro i
 by_cases hi : i < 32
 ·rw [(hc i hi).1, Array.getElem?_toList, bytesA_get _ _ _ hi]
 ·rw [List.getElem?_eq_none (by omega), List.getElem?_eq_none (by rw [Array.length_toList, bytesA_size]; omega)]
theorem hrow_of_trod {H : Type} {enc : TypeId × Value → H} {W : World} {sp : Nat → Bool} {held : Bool} {n base : Nat} {v : Value} {x : DataW H × List MemPlace} (hf : DataW.trod enc Try.prog W base sp held n 67 [v] = some x) :
  ∃ L : List Hs, HRow W v L ∧ (L = [] ∨ ∃ (D : Nat → DataW H) (rest : List (DataW H)), x.1 = .slice ((List.range L.length).map D) rest) := by
 rcases open_slice Try.underlying67 hf with ⟨hcs, _⟩ | ⟨a, len, cap, m, n, D, Pl, hcs, _, hl, hm, hz, hx, hcell⟩
 ·simp at hcs
  subst hcs
  exact ⟨[], .inl ⟨none, 0, rfl, rfl, fun _ => rfl⟩, .inl rfl⟩
 ·simp at hcs
  subst hcs
  have hlz : len ≤ m := by rw [hz]; split <;> omega
  by_cases h0 : len = 0
  ·subst h0
   exact ⟨[], .inl ⟨some a, cap, rfl, rfl, fun h => by cases h⟩, .inl rfl⟩
  ·have each0 : ∀ i, i < len → ∃ c : Nat → Int, (∀ j, j < 32 → 0 ≤ c j ∧ c j < 256) ∧ ∀ j, j < 32 → W.cell? ((a.add (i * 32)).add j) = some (.int .u8 (c j)) := by
    intro i hi
    obtain ⟨cs', h1, h2⟩ := hcell i (by omega)
    rw [Try.cellsOf25] at h1
    obtain ⟨_, hlen, hce⟩ := World.cells?_some h1
    obtain ⟨c, hcs, hc⟩ := hash_of_trod h2
    refine ⟨c, hc, fun j hj => ?_⟩
    rw [hce j hj, hcs, Array.getElem?_toList, bytesA_get 32 c j hj]
   have hs : a.spot = none := by
    obtain ⟨c, _, h3⟩ := each0 0 (by omega)
    have h4 := h3 0 (by omega)
    rw [Nat.zero_mul, show (a.add 0).add 0 = a from rfl] at h4
    exact World.cell?_spot h4
   obtain ⟨b, off, sp⟩ := a
   obtain rfl : sp = none := hs
   have each : ∀ i, i < len → ∃ y : Hs, W.rangeAt b (off + i * 32) (encH y) := by
    intro i hi
    obtain ⟨c, hc, h3⟩ := each0 i hi
    refine ⟨Hs.mk' c hc, fun j v hv => ?_⟩
    have hj : j < 32 := by have := (List.getElem?_eq_some_iff.1 hv).1; rwa [encH_len] at this
    rw [encH_get _ _ hj, Hs.mk'_f _ _ _ hj] at hv
    have h4 := h3 j hj
    rw [Addr.add_mid, Addr.add_mid] at h4
    rw [h4]; exact hv
   obtain ⟨y, hy⟩ := Go.Deep.choose_lt each
   refine ⟨(List.range len).map y, .inr ⟨b, off, cap, by simp, by simpa using hl, rangeAt_of_elems fun i hi => ?_⟩, .inr ⟨D, (List.range (m - len)).map fun j => D (len + j), ?_⟩⟩
   ·have hi' : i < len := by simpa using hi
    simpa using hy i hi'
   ·rw [hx]; simp
theorem bulk_one {H : Type} (d : DataW H) : 1 ≤ Rows.uptoBulk d := by
 unfold Rows.uptoBulk
 split <;> omega
theorem bulk_all {H : Type} : ∀ l : List (DataW H), l.length ≤ Rows.uptoBulkAll l
 | [] => Nat.zero_le _
 | d :: r => by
  have h1 := bulk_all r
  have h2 := bulk_one d
  simp only [Rows.uptoBulkAll, List.length_cons]
  omega
theorem bulk_mem {H : Type} {d : DataW H} : ∀ {l : List (DataW H)}, d ∈ l → Rows.uptoBulk d ≤ Rows.uptoBulkAll l
 | [], h => by simp at h
 | e :: r, h => by
  simp only [Rows.uptoBulkAll]
  rcases List.mem_cons.1 h with rfl | h
  ·omega
  ·have := bulk_mem h; omega
theorem row_lt {w : World} {v : Value} {l : List Int} (h : RowAt w v l) (h0 : l ≠ []) : ∀ k, v.ownBlock = some k → k < w.heap.size := by
 intro k hk
 rcases h with ⟨_, rfl⟩ | ⟨_, _, _, rfl⟩ | ⟨q, off, cap, rfl, h1, h2⟩
 ·exact absurd rfl h0
 ·exact absurd rfl h0
 ·have := cell_lt (h2 0 (List.length_pos_iff.2 h0))
  simp [Value.ownBlock] at hk
  omega
theorem rowb_of_trod {H : Type} {enc : TypeId × Value → H} {W : World} {sp : Nat → Bool} {held : Bool} {n base : Nat} {v : Value} {x : DataW H × List MemPlace} (hf : DataW.trod enc Try.prog W base sp held n 38 [v] = some x) :
  ∃ l : List Int, RowAt W v l ∧ Byts l ∧ l.length ≤ Rows.uptoBulk x.1 := by
 rcases open_ints Try.underlying38 Try.underlying5 Try.cellsOf5 hf with ⟨hcs, _⟩ | ⟨a, len, cap, zs, hcs, _, hl, hm, hz, hx, hcell, hwz⟩
 ·simp at hcs
  subst hcs
  exact ⟨[], .inl ⟨rfl, rfl⟩, Byts.nil, by simp⟩
 ·simp at hcs
  subst hcs
  have hlz : len ≤ zs.length := by rw [hz]; split <;> omega
  have hbz : Byts zs := fun c hc => wf_u8 (hwz c hc)
  have hb : len ≤ Rows.uptoBulk x.1 := by
   rw [hx]
   simp only [Rows.uptoBulk]
   have h1 := bulk_all (lits (H := H) .u8 (zs.take len))
   have h2 : (lits (H := H) .u8 (zs.take len)).length = len := by simp [lits]; omega
   omega
  by_cases h0 : len = 0
  ·subst h0
   exact ⟨[], .inr (.inl ⟨a, cap, rfl, rfl⟩), Byts.nil, by simp⟩
  ·have hs : a.spot = none := by
    have := hcell 0 (by omega)
    rw [show a.add 0 = a from rfl] at this
    exact World.cell?_spot this
   obtain ⟨b, off, sp⟩ := a
   obtain rfl : sp = none := hs
   refine ⟨zs.take len, .inr (.inr ⟨b, off, cap, by rw [List.length_take]; congr 1; omega, by rw [List.length_take]; omega, fun i hi => ?_⟩), hbz.take len, by rw [List.length_take]; omega⟩
   rw [List.length_take] at hi
   have h1 := hcell i (by omega)
   rw [add_none'] at h1
   rw [h1]
   congr 2
   rw [List.getD_eq_getElem?_getD, List.getD_eq_getElem?_getD, List.getElem?_take, if_pos (by omega)]
set_option maxRecDepth 8000 in
theorem cell_of_trod {H : Type} {enc : TypeId × Value → H} {W : World} {sp : Nat → Bool} {held : Bool} {n base : Nat} {cs : List Value} {x : DataW H × List MemPlace} (hf : DataW.trod enc Try.prog W base sp held n 40 cs = some x) :
  ∃ c : CV, cs = cvL c ∧ RowAt W c.v c.l ∧ Byts c.l ∧ (-9223372036854775808 ≤ c.k ∧ c.k ≤ 9223372036854775807) ∧ c.s.size + c.l.length ≤ Rows.uptoBulk x.1 := by
 obtain ⟨y0, y1, y2, k, hx, hl, h0, h1, h2⟩ := trod_struct3 Try.underlying40 hf
 rw [Try.cellsOf40] at hl
 match cs, hl with
 | [a, b, c], _ =>
  simp only [Try.cellsOf3, Try.cellsOf9, Try.cellsOf38, List.drop_zero, List.take_succ_cons, List.take_zero, List.drop_succ_cons] at h0 h1 h2
  obtain ⟨n0, e0, w0⟩ := DataW.trod_int Try.underlying3 h0
  obtain ⟨s, e1, ex, _⟩ := DataW.trod_string Try.underlying9 h1
  obtain ⟨l, r1, r2, r3⟩ := rowb_of_trod h2
  simp at e0 e1
  refine ⟨⟨n0, s, c, l⟩, by rw [e0, e1]; rfl, r1, r2, wf_i64 w0.2, ?_⟩
  show s.size + l.length ≤ _
  have e2 : y1.1 = .lit (.string s.data.toList) := by rw [ex]
  rw [hx]
  simp only [Rows.uptoBulk, Rows.uptoBulkAll, e2]
  have : s.data.toList.length = s.size := by simp
  omega
set_option maxRecDepth 8000 in
theorem cells_of_trod {H : Type} {enc : TypeId × Value → H} {W : World} {sp : Nat → Bool} {held : Bool} {n base : Nat} {v : Value} {x : DataW H × List MemPlace} (hf : DataW.trod enc Try.prog W base sp held n 23 [v] = some x) :
  ∃ L : List CV, CsV W.heap.size W v L ∧ L.length ≤ Rows.uptoBulk x.1 ∧ ∀ c ∈ L, Byts c.l ∧ (-9223372036854775808 ≤ c.k ∧ c.k ≤ 9223372036854775807) ∧ c.s.size + c.l.length ≤ Rows.uptoBulk x.1 := by
 rcases open_slice Try.underlying23 hf with ⟨hcs, _⟩ | ⟨a, len, cap, m, n, D, Pl, hcs, _, hl, hm, hz, hx, hcell⟩
 ·simp at hcs
  subst hcs
  exact ⟨[], .inl ⟨none, 0, rfl, rfl⟩, by simp, fun c hc => by simp at hc⟩
 ·simp at hcs
  subst hcs
  have hlz : len ≤ m := by rw [hz]; split <;> omega
  by_cases h0 : len = 0
  ·subst h0
   exact ⟨[], .inl ⟨some a, cap, rfl, rfl⟩, by simp, fun c hc => by simp at hc⟩
  ·have each : ∀ i, i < len → ∃ c : CV, (∀ j u, (cvL c)[j]? = some u → W.cell? ((a.add (i * 3)).add j) = some u) ∧ RowAt W c.v c.l ∧ Byts c.l ∧ (-9223372036854775808 ≤ c.k ∧ c.k ≤ 9223372036854775807) ∧ c.s.size + c.l.length ≤ Rows.uptoBulk (D i) := by
    intro i hi
    obtain ⟨cs', h1, h2⟩ := hcell i (by omega)
    rw [Try.cellsOf40] at h1
    obtain ⟨_, hlen, hce⟩ := World.cells?_some h1
    obtain ⟨c, e, r1, r2, r3, r4⟩ := cell_of_trod h2
    refine ⟨c, fun j u hu => ?_, r1, r2, r3, r4⟩
    rw [← e] at hu
    have hj := (List.getElem?_eq_some_iff.1 hu).1
    rw [hce j (by omega)]; exact hu
   haveI : Inhabited CV := ⟨⟨0, ByteArray.empty, .nilFunc, []⟩⟩
   obtain ⟨f, hfc⟩ := Go.Deep.choose_lt each
   have hs : a.spot = none := by
    have := (hfc 0 (by omega)).1 0 (.int .i64 (f 0).k) rfl
    rw [Nat.zero_mul, show (a.add 0).add 0 = a from rfl] at this
    exact World.cell?_spot this
   obtain ⟨b, off, sp⟩ := a
   obtain rfl : sp = none := hs
   have hb0 : b < W.heap.size := by
    have := (hfc 0 (by omega)).1 0 (.int .i64 (f 0).k) rfl
    rw [Addr.add_mid, Addr.add_mid] at this
    exact cell_lt this
   have hbk : ∀ i, i < len → Rows.uptoBulk (D i) ≤ Rows.uptoBulk x.1 := fun i hi => by
    rw [hx]
    simp only [Rows.uptoBulk]
    have := bulk_mem (d := D i) (l := (List.range len).map D) (List.mem_map.2 ⟨i, List.mem_range.2 hi, rfl⟩)
    omega
   refine ⟨(List.range len).map f, .inr ⟨b, off, cap, by simp, by simpa using hl, hb0, fun i c hc => ?_, fun c hc => ?_⟩, ?_, fun c hc => ?_⟩
   ·have hi : i < len := by have := (List.getElem?_eq_some_iff.1 hc).1; simpa using this
    have e : f i = c := by simpa [hi] using hc
    subst e
    intro j u hu
    have h1 := (hfc i hi).1 j u hu
    rw [Addr.add_mid, Addr.add_mid] at h1
    exact h1
   ·obtain ⟨i, hi, rfl⟩ := List.mem_map.1 hc
    have h1 := hfc i (List.mem_range.1 hi)
    exact ⟨h1.2.1, fun h => row_lt h1.2.1 h⟩
   ·rw [hx]
    simp only [Rows.uptoBulk]
    have := bulk_all ((List.range len).map D)
    simp only [List.length_map, List.length_range] at this ⊢
    omega
   ·obtain ⟨i, hi, rfl⟩ := List.mem_map.1 hc
    have hi := List.mem_range.1 hi
    have h1 := hfc i hi
    have h2 := hbk i hi
    exact ⟨h1.2.2.1, h1.2.2.2.1, by have := h1.2.2.2.2; omega⟩

end Go.Proofs.Ytjklmkeedhgncaa
namespace Go.Proofs.Ytjklmkeedhgncaa
open Go.RowKit
set_option linter.unusedSimpArgs false
set_option linter.unusedVariables false

end Go.Proofs.Ytjklmkeedhgncaa
