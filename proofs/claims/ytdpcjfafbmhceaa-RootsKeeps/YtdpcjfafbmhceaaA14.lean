import Derived.Test.YtdpcjfafbmhceaaA13
import Derived.Test.YtdpcjfafbmhceaaA08
import Derived.Test.YtdpcjfafbmhceaaA09
set_option maxRecDepth 8000
namespace Go.Proofs.Ytdpcjfafbmhceaa
open Go.RowKit
set_option linter.unusedSimpArgs false
set_option linter.unusedVariables false
theorem UA (w : World) (vs : Array Value) : (callFunc 27 vs).run Try.prog w = .ok (.enter 27 vs) w := by kernel_rfl
theorem Df : (Try.prog.info? 3).map (fun i => (i.zero, i.size, i.bytes)) = some (some (.int .i64 0), 1, 8) := by kernel_rfl
theorem Un (a : Int) (w : World) : (Instr.buildSlice 65 1 #[(0, .int .i64 a)]).run Try.prog w = .ok (.slice (some ⟨w.heap.size, 0, none⟩) 1 1) (w.alloc (.cells #[.int .i64 a] 3)) := by kernel_rfl
theorem Zx (w : World) (ty : TypeId) (B : Nat) (v : Value) (n : Nat) (xs : List Value) (hown : w.ownsRow B 3 1 v n xs) (gx : Nat) (a : Int) (hc : w.cell? ⟨gx, 0, none⟩ = some (.int .i64 a)) (hb : n + 1 ≤ 4398046511104) (hB : B ≤ w.heap.size) :
  ∃ v' w', (Builtin.append_ #[65, 65] ty #[v, .slice (some ⟨gx, 0, none⟩) 1 1]).run Try.prog w = .ok v' w' ∧ w'.ownsRow B 3 1 v' (n + 1) (xs ++ [.int .i64 a]) ∧ (Grown w w' fun k => v.ownBlock = some k) ∧ (v'.ownBlock = v.ownBlock ∨ v'.ownBlock = some w.heap.size) := by
 obtain ⟨i, hi, hzz⟩ := Option.map_eq_some_iff.1 Df
 simp only [Prod.mk.injEq] at hzz
 obtain ⟨hz, hsz, hby⟩ := hzz
 obtain ⟨v', w', hr, h1, h2, _, h3⟩ := run_append_own_at (P := Try.prog) w B 65 ty 3 i (.int .i64 0) 1 8 Try.underlying65 hi hz hsz hby rfl (by omega) v n xs hown ⟨gx, 0, none⟩ 1 1 [.int .i64 a] rfl (fun j u hu => by
  cases j with
  | zero => simp at hu; subst hu; exact hc
  | succ j => simp at hu) (fun u hu => by simp at hu; subst hu; rfl) (by unfold maxLen; omega) (by omega) hB
 exact ⟨v', w', hr, h1, Grown.of h2 fun k _ e => e, h3⟩
theorem WL.appI {ops : Array Oper} {rest : List Oper} {o : Oper} {a : Act} {w : World} {Q : Exit → Act → World → Prop} (hw : Region.wanted o (yielded ops a.tmps) = true) (s x : Operand)
  (ho : o.op = .call { callee := .builtin .append, args := #[s, x], argTypes := #[65, 65] }) (v : Value) (B n : Nat) (xs : List Value) (gx : Nat) (z : Int)
  (hs : a.eval s = v) (hx : a.eval x = .slice (some ⟨gx, 0, none⟩) 1 1) (hown : w.ownsRow B 3 1 v n xs) (hc : w.cell? ⟨gx, 0, none⟩ = some (.int .i64 z)) (hb : n + 1 ≤ 4398046511104) (hB : B ≤ w.heap.size)
  (h : ∀ v' w', w'.ownsRow B 3 1 v' (n + 1) (xs ++ [.int .i64 z]) → (Grown w w' fun k => v.ownBlock = some k) → (v'.ownBlock = v.ownBlock ∨ v'.ownBlock = some w.heap.size) → WL Try.prog ops Q rest (a.put o.dst v') w') : WL Try.prog ops Q (o :: rest) a w :=
 ⟨qC hw fun K hK => by
  obtain ⟨v', w', hr, h1, h2, h3⟩ := Zx w o.type B v n xs hown gx z hc hb hB
  unfold Oper.wp execOp
  simp only [ho, resolve, invoke, builtin, Sem.run_bind, Sem.run_pure, Result.andThen_ok, List.map_toArray, List.map_cons, List.map_nil, hs, hx, hr]
  exact hK _ _ (h v' w' h1 h2 h3).o⟩
def fnd (n at_ : Nat) (is : Bool) : List Nat := if is then [at_] else (if 0 < at_ then [at_ - 1] else []) ++ (if at_ < n then [at_] else [])
theorem kj {w : World} {B : Nat} {v : Value} {ns : List Nat} (h : w.ownsRow B 3 1 v ns.length (ns.map fun (k : Nat) => Value.int .i64 (k : Int))) : NsV w v ns := by
 rcases h.2 with ⟨rfl, h0⟩ | ⟨g, cap, cur, rfl, _, h3, h4, h5, h6, h7⟩
 ·exact .inl ⟨none, 0, rfl, List.length_eq_zero_iff.mp h0⟩
 ·refine .inr ⟨g, cap, rfl, ⟨cur, _, h3⟩, fun j k hj => ?_⟩
  have hl : j < ns.length := (List.getElem?_eq_some_iff.mp hj).1
  have e : cur.toList[j]? = some (.int .i64 (k : Int)) := by
   have e2 : (cur.toList.take (ns.length * 1))[j]? = some (.int .i64 (k : Int)) := by rw [h7, List.getElem?_map, hj]; rfl
   rw [List.getElem?_take, if_pos (by omega)] at e2
   exact e2
  rw [Array.getElem?_toList] at e
  exact (show Blk w g 3 cur from h3).c j e
theorem NsV.below {w w' : World} {v : Value} {ns : List Nat} (h : NsV w v ns) (hb : Below w.heap.size w w') : NsV w' v ns := by
 rcases h with h | ⟨g, c, h1, ⟨cs, fr, h2⟩, h3⟩
 ·exact .inl h
 ·have g_ := gF hb
  exact .inr ⟨g, c, h1, g_.typ ⟨cs, fr, h2⟩ id, fun j n hj => g_.cell (h3 j n hj) id⟩
theorem Dv (la : Option Addr) (n cap at_ : Nat) (L : List CV) (kind : Int) (key : ByteArray) (w : World) (hn : Keep (L.length = n)) (HN : Keep (n ≤ 1099511627776)) (HC : Keep (0 < n → ∃ b off, la = some ⟨b, off, none⟩ ∧ CsAt w.heap.size w b off L)) (HA : Keep (at_ ≤ n)) (HAt : Keep (∀ (i : Nat) (c : CV), L[i]? = some c → (stI c.k c.s kind key < 0 ↔ i < at_))) (HF : Keep (fndB L at_ kind key = true))  :
  Calls Try.prog 27 #[.slice la n cap, .int .i64 kind, .string key] w fun e w' => ∃ v, e = .returned v ∧ NsV w' v (fnd n at_ true) ∧ Below w.heap.size w w' := by
 go_enter Try.func27, Try.ntmps27
 refine wp_seq_k fun K1 hK1 => rgn ?_
 refine WL.boxV (by kernel_rfl) 3 (.tmp 1) rfl (.int .i64 kind) rfl (by rfl) ?_
 have K1 := kk (Blk.new w 3 #[.int .i64 kind])
 have b_ := qg w (.cells #[.int .i64 kind] 3)
 change WL _ _ _ _ _ (w.alloc (.cells #[.int .i64 kind] 3))
 generalize w.alloc (.cells #[.int .i64 kind] 3) = w1 at *
 obtain ⟨qk, hqk0⟩ := nm w
 rw [← hqk0.o] at K1 ⊢
 have B1 : Keep (Below w.heap.size w w1) := ⟨b_⟩
 have gqk := lh hqk0
 clear b_
 have HQ : Keep (∀ wx, Below w1.heap.size w1 wx → wx.cell? ⟨qk, 0, none⟩ = some (.int .i64 kind)) := ⟨fun wx hb => (K1.o.below hb K1.o.lt).c 0 rfl⟩
 simp only [Act.put, pqA, pqB, pqC]
 refine Vv (.slice none 0 0) (h:=WL.nil (hK1 _ _ (wp_seq_k fun K2 hK2 => rgn (Vv (.slice la n cap) (h:=Vv (.string key) (h:=Vv (.func (.func 53) #[] #[ptr qk]) (h:=ClS (Kp la n cap at_ L kind key qk w1 hn HN.o (fun h => by obtain ⟨b, off, h1, h2⟩ := HC.o h; exact ⟨b, off, h1, (h2.below B1.o).mono B1.o.size⟩) HQ.o HA.o HAt.o) ?_)))))))
 rintro e w2 ⟨rfl, k1⟩
 refine ⟨_, rfl, ?_⟩
 rw [HF.o]
 have B2 := tb B1 k1
 clear k1
 refine Vv (.tuple #[.int .i64 (at_ : Int), .bool true]) (h:=Vv (.int .i64 (at_ : Int)) (h:=Vt (h:=Vv (.int .i64 (at_ : Int)) (h:=Vt (h:=WL.nil (hK2 _ _ (wp_seq_k fun K3 hK3 => wp_seq_k fun K4 hK4 => rgn (Vt (h:=WL.nil (hK4 _ _ (Ct (h:=wp_seq_k fun K5 hK5 => rgn (Vv (.int .i64 (at_ : Int)) (h:=?_))))))))))))))
 refine WL.bs (by kernel_rfl) 65 1 _ rfl #[(0, .int .i64 (at_ : Int))] (by simp [Act.eval]) _ _ (Un (at_ : Int) w2) ?_
 have b_ := qg w2 (.cells #[.int .i64 (at_ : Int)] 3)
 have Ng := kk (Blk.new w2 3 #[.int .i64 (at_ : Int)])
 generalize w2.alloc (.cells #[.int .i64 (at_ : Int)] 3) = w3 at *
 obtain ⟨g, hg⟩ := nm w2
 rw [← hg.o] at Ng ⊢
 have B3 := tb B2 b_
 have gg : Keep (w.heap.size ≤ g) := ⟨by rw [hg.o]; exact B2.o.size⟩
 clear b_
 simp only [Act.put, pqA, pqB, pqC]
 refine Vv (.slice (some ⟨g, 0, none⟩) 1 1) (h:=WL.nil (hK5 _ _ (wp_ret ?_)))
 go_ret
 exact ⟨_, rfl, .inr ⟨g, 1, rfl, Ng.o.typ, fun j k hj => by rw [fnd, if_pos rfl] at hj; cases j with | zero => simp at hj; subst hj; exact Ng.o.c 0 rfl | succ j => simp at hj⟩, B3.o⟩
theorem Du (la : Option Addr) (n cap at_ : Nat) (L : List CV) (kind : Int) (key : ByteArray) (w : World) (hn : Keep (L.length = n)) (HN : Keep (n ≤ 1099511627776)) (HC : Keep (0 < n → ∃ b off, la = some ⟨b, off, none⟩ ∧ CsAt w.heap.size w b off L)) (HA : Keep (at_ ≤ n)) (HAt : Keep (∀ (i : Nat) (c : CV), L[i]? = some c → (stI c.k c.s kind key < 0 ↔ i < at_))) (HF : Keep (fndB L at_ kind key = false)) (h0 : ¬ 0 < at_) (h1 : at_ < n) :
  Calls Try.prog 27 #[.slice la n cap, .int .i64 kind, .string key] w fun e w' => ∃ v, e = .returned v ∧ NsV w' v (fnd n at_ false) ∧ Below w.heap.size w w' := by
 have g0 : ¬ (at_ : Int) > 0 := by omega
 have g0' : ¬ 0 < (at_ : Int) := by omega
 have g1 : (at_ : Int) < (n : Int) := by omega
 go_enter Try.func27, Try.ntmps27
 refine wp_seq_k fun K1 hK1 => rgn ?_
 refine WL.boxV (by kernel_rfl) 3 (.tmp 1) rfl (.int .i64 kind) rfl (by rfl) ?_
 have K1 := kk (Blk.new w 3 #[.int .i64 kind])
 have b_ := qg w (.cells #[.int .i64 kind] 3)
 change WL _ _ _ _ _ (w.alloc (.cells #[.int .i64 kind] 3))
 generalize w.alloc (.cells #[.int .i64 kind] 3) = w1 at *
 obtain ⟨qk, hqk0⟩ := nm w
 rw [← hqk0.o] at K1 ⊢
 have B1 : Keep (Below w.heap.size w w1) := ⟨b_⟩
 have gqk := lh hqk0
 clear b_
 have HQ : Keep (∀ wx, Below w1.heap.size w1 wx → wx.cell? ⟨qk, 0, none⟩ = some (.int .i64 kind)) := ⟨fun wx hb => (K1.o.below hb K1.o.lt).c 0 rfl⟩
 simp only [Act.put, pqA, pqB, pqC]
 refine Vv (.slice none 0 0) (h:=WL.nil (hK1 _ _ (wp_seq_k fun K2 hK2 => rgn (Vv (.slice la n cap) (h:=Vv (.string key) (h:=Vv (.func (.func 53) #[] #[ptr qk]) (h:=ClS (Kp la n cap at_ L kind key qk w1 hn HN.o (fun h => by obtain ⟨b, off, h1, h2⟩ := HC.o h; exact ⟨b, off, h1, (h2.below B1.o).mono B1.o.size⟩) HQ.o HA.o HAt.o) ?_)))))))
 rintro e w2 ⟨rfl, k1⟩
 refine ⟨_, rfl, ?_⟩
 rw [HF.o]
 have B2 := tb B1 k1
 clear k1
 refine Vv (.tuple #[.int .i64 (at_ : Int), .bool false]) (h:=Vv (.int .i64 (at_ : Int)) (h:=Vf (h:=Vv (.int .i64 (at_ : Int)) (h:=Vf (h:=WL.nil (hK2 _ _ (wp_seq_k fun K3 hK3 => wp_seq_k fun K4 hK4 => rgn (Vf (h:=WL.nil (hK4 _ _ (Cf (h:=wp_skip (hK3 _ _ (wp_seq_k fun K5 hK5 => rgn (Vv (.slice none 0 0) (h:=?_))))))))))))))))
 refine WL.nil (hK5 _ _ (wp_seq_k fun K6 hK6 => wp_seq_k fun K7 hK7 => rgn (Vv (.int .i64 (at_ : Int)) (h:=Vf (h:=WL.nil (hK7 _ _ (Cf (h:=wp_skip (hK6 _ _ (wp_seq_k fun K8 hK8 => wp_seq_k fun K9 hK9 => rgn (Vv (.int .i64 (at_ : Int)) (h:=Vv (.slice la n cap) (h:=Vv (.int .i64 (n : Int)) (h:=Vt (h:=WL.nil (hK9 _ _ (?_)))))))))))))))))
 refine Ct (h:=rgn (Vv (.slice none 0 0) (h:=Vv (.int .i64 (at_ : Int)) (h:=?_))))
 refine WL.bs (by kernel_rfl) 65 1 _ rfl #[(0, .int .i64 (at_ : Int))] (by simp [Act.eval]) _ _ (Un (at_ : Int) w2) ?_
 have b_ := qg w2 (.cells #[.int .i64 (at_ : Int)] 3)
 have Nh := kk (Blk.new w2 3 #[.int .i64 (at_ : Int)])
 generalize w2.alloc (.cells #[.int .i64 (at_ : Int)] 3) = w5 at *
 obtain ⟨h, hh⟩ := nm w2
 rw [← hh.o] at Nh ⊢
 have B5 := tb B2 b_
 have gh : Keep (w.heap.size ≤ h) := ⟨by rw [hh.o]; exact B2.o.size⟩
 have b5 := kk b_
 clear b_
 simp only [Act.put, pqA, pqB, pqC]
 refine WL.appI (by kernel_rfl) (.tmp 31) (.tmp 33) rfl (.slice none 0 0) w.heap.size 0 [] h (at_ : Int) rfl rfl ⟨rfl, .inl ⟨rfl, rfl⟩⟩ (Nh.o.c 0 rfl) (by omega) B5.o.size ?_
 intro v6 w6 k1 k2 k3
 have O6 : Keep (w6.ownsRow w.heap.size 3 1 v6 (0 + 1) ([] ++ [.int .i64 (at_ : Int)])) := ⟨k1⟩
 have B6 : Keep (Below w.heap.size w w6) := ⟨B5.o.trans (k2.to_below (fun k hk e => by
  simp [Value.ownBlock] at e) B5.o.size)⟩
 clear k1 k2 k3
 simp only [Act.put, pqA, pqB, pqC]
 refine Vv (v6) (h:=WL.nil (hK8 _ _ (wp_seq_k fun K10 hK10 => rgn (Vv (v6) (h:=Vv (v6) (h:=WL.nil (hK10 _ _ (wp_ret ?_))))))))
 go_ret
 have hfn : fnd n at_ false = [at_] := by simp [fnd, h0, h1]
 refine ⟨_, rfl, ?_, B6.o⟩
 rw [hfn]
 exact kj O6.o
theorem Dw (la : Option Addr) (n cap at_ : Nat) (L : List CV) (kind : Int) (key : ByteArray) (w : World) (hn : Keep (L.length = n)) (HN : Keep (n ≤ 1099511627776)) (HC : Keep (0 < n → ∃ b off, la = some ⟨b, off, none⟩ ∧ CsAt w.heap.size w b off L)) (HA : Keep (at_ ≤ n)) (HAt : Keep (∀ (i : Nat) (c : CV), L[i]? = some c → (stI c.k c.s kind key < 0 ↔ i < at_))) (HF : Keep (fndB L at_ kind key = false)) (h0 : 0 < at_) (h1 : ¬ at_ < n) :
  Calls Try.prog 27 #[.slice la n cap, .int .i64 kind, .string key] w fun e w' => ∃ v, e = .returned v ∧ NsV w' v (fnd n at_ false) ∧ Below w.heap.size w w' := by
 have g0 : (at_ : Int) > 0 := by omega
 have g1 : ¬ (at_ : Int) < (n : Int) := by omega
 have hw1 : IntKind.i64.wrap ((at_ : Int) - 1) = ((at_ - 1 : Nat) : Int) := by rw [IntKind.wrap_i64]; have := HN.o; have := HA.o; omega
 go_enter Try.func27, Try.ntmps27
 refine wp_seq_k fun K1 hK1 => rgn ?_
 refine WL.boxV (by kernel_rfl) 3 (.tmp 1) rfl (.int .i64 kind) rfl (by rfl) ?_
 have K1 := kk (Blk.new w 3 #[.int .i64 kind])
 have b_ := qg w (.cells #[.int .i64 kind] 3)
 change WL _ _ _ _ _ (w.alloc (.cells #[.int .i64 kind] 3))
 generalize w.alloc (.cells #[.int .i64 kind] 3) = w1 at *
 obtain ⟨qk, hqk0⟩ := nm w
 rw [← hqk0.o] at K1 ⊢
 have B1 : Keep (Below w.heap.size w w1) := ⟨b_⟩
 have gqk := lh hqk0
 clear b_
 have HQ : Keep (∀ wx, Below w1.heap.size w1 wx → wx.cell? ⟨qk, 0, none⟩ = some (.int .i64 kind)) := ⟨fun wx hb => (K1.o.below hb K1.o.lt).c 0 rfl⟩
 simp only [Act.put, pqA, pqB, pqC]
 refine Vv (.slice none 0 0) (h:=WL.nil (hK1 _ _ (wp_seq_k fun K2 hK2 => rgn (Vv (.slice la n cap) (h:=Vv (.string key) (h:=Vv (.func (.func 53) #[] #[ptr qk]) (h:=ClS (Kp la n cap at_ L kind key qk w1 hn HN.o (fun h => by obtain ⟨b, off, h1, h2⟩ := HC.o h; exact ⟨b, off, h1, (h2.below B1.o).mono B1.o.size⟩) HQ.o HA.o HAt.o) ?_)))))))
 rintro e w2 ⟨rfl, k1⟩
 refine ⟨_, rfl, ?_⟩
 rw [HF.o]
 have B2 := tb B1 k1
 clear k1
 refine Vv (.tuple #[.int .i64 (at_ : Int), .bool false]) (h:=Vv (.int .i64 (at_ : Int)) (h:=Vf (h:=Vv (.int .i64 (at_ : Int)) (h:=Vf (h:=WL.nil (hK2 _ _ (wp_seq_k fun K3 hK3 => wp_seq_k fun K4 hK4 => rgn (Vf (h:=WL.nil (hK4 _ _ (Cf (h:=wp_skip (hK3 _ _ (wp_seq_k fun K5 hK5 => rgn (Vv (.slice none 0 0) (h:=?_))))))))))))))))
 refine WL.nil (hK5 _ _ (wp_seq_k fun K6 hK6 => wp_seq_k fun K7 hK7 => rgn (Vv (.int .i64 (at_ : Int)) (h:=Vt (h:=WL.nil (hK7 _ _ (Ct (h:=rgn (Vv (.slice none 0 0) (h:=Vv (.int .i64 (at_ : Int)) (h:=Vv (.int .i64 ((at_ - 1 : Nat) : Int)) (h:=?_))))))))))))
 refine WL.bs (by kernel_rfl) 65 1 _ rfl #[(0, .int .i64 ((at_ - 1 : Nat) : Int))] (by simp [Act.eval]) _ _ (Un ((at_ - 1 : Nat) : Int) w2) ?_
 have b_ := qg w2 (.cells #[.int .i64 ((at_ - 1 : Nat) : Int)] 3)
 have Ng := kk (Blk.new w2 3 #[.int .i64 ((at_ - 1 : Nat) : Int)])
 generalize w2.alloc (.cells #[.int .i64 ((at_ - 1 : Nat) : Int)] 3) = w3 at *
 obtain ⟨g, hg⟩ := nm w2
 rw [← hg.o] at Ng ⊢
 have B3 := tb B2 b_
 have gg : Keep (w.heap.size ≤ g) := ⟨by rw [hg.o]; exact B2.o.size⟩
 clear b_
 simp only [Act.put, pqA, pqB, pqC]
 refine WL.appI (by kernel_rfl) (.tmp 22) (.tmp 25) rfl (.slice none 0 0) w.heap.size 0 [] g ((at_ - 1 : Nat) : Int) rfl rfl ⟨rfl, .inl ⟨rfl, rfl⟩⟩ (Ng.o.c 0 rfl) (by omega) B3.o.size ?_
 intro v4 w4 k1 k2 k3
 have O4 : Keep (w4.ownsRow w.heap.size 3 1 v4 (0 + 1) ([] ++ [.int .i64 ((at_ - 1 : Nat) : Int)])) := ⟨k1⟩
 have B4 : Keep (Below w.heap.size w w4) := ⟨B3.o.trans (k2.to_below (fun k hk e => by
  simp [Value.ownBlock] at e) B3.o.size)⟩
 clear k1 k2 k3
 obtain ⟨va, vc, hv4⟩ := qE O4.o
 subst hv4
 simp only [Act.put, pqA, pqB, pqC]
 refine Vv (.slice va (0 + 1) vc) (h:=WL.nil (hK6 _ _ (wp_seq_k fun K8 hK8 => wp_seq_k fun K9 hK9 => rgn (Vv (.int .i64 (at_ : Int)) (h:=Vv (.slice la n cap) (h:=Vv (.int .i64 (n : Int)) (h:=Vf (h:=WL.nil (hK9 _ _ (Cf (h:=wp_skip (hK8 _ _ (wp_seq_k fun K10 hK10 => rgn (Vv (.slice va (0 + 1) vc) (h:=Vv (.slice va (0 + 1) vc) (h:=?_))))))))))))))))
 refine WL.nil (hK10 _ _ (wp_ret ?_))
 go_ret
 have hfn : fnd n at_ false = [at_ - 1] := by simp [fnd, h0, h1]
 refine ⟨_, rfl, ?_, B4.o⟩
 rw [hfn]
 exact kj O4.o
theorem GQ (la : Option Addr) (n cap at_ : Nat) (L : List CV) (kind : Int) (key : ByteArray) (w : World) (hn : Keep (L.length = n)) (HN : Keep (n ≤ 1099511627776)) (HC : Keep (0 < n → ∃ b off, la = some ⟨b, off, none⟩ ∧ CsAt w.heap.size w b off L)) (HA : Keep (at_ ≤ n)) (HAt : Keep (∀ (i : Nat) (c : CV), L[i]? = some c → (stI c.k c.s kind key < 0 ↔ i < at_))) (HF : Keep (fndB L at_ kind key = false)) (h0 : 0 < at_) (h1 : at_ < n) :
  Calls Try.prog 27 #[.slice la n cap, .int .i64 kind, .string key] w fun e w' => ∃ v, e = .returned v ∧ NsV w' v (fnd n at_ false) ∧ Below w.heap.size w w' := by
 have g0 : (at_ : Int) > 0 := by omega
 have g1 : (at_ : Int) < (n : Int) := by omega
 have hw1 : IntKind.i64.wrap ((at_ : Int) - 1) = ((at_ - 1 : Nat) : Int) := by rw [IntKind.wrap_i64]; have := HN.o; have := HA.o; omega
 go_enter Try.func27, Try.ntmps27
 refine wp_seq_k fun K1 hK1 => rgn ?_
 refine WL.boxV (by kernel_rfl) 3 (.tmp 1) rfl (.int .i64 kind) rfl (by rfl) ?_
 have K1 := kk (Blk.new w 3 #[.int .i64 kind])
 have b_ := qg w (.cells #[.int .i64 kind] 3)
 change WL _ _ _ _ _ (w.alloc (.cells #[.int .i64 kind] 3))
 generalize w.alloc (.cells #[.int .i64 kind] 3) = w1 at *
 obtain ⟨qk, hqk0⟩ := nm w
 rw [← hqk0.o] at K1 ⊢
 have B1 : Keep (Below w.heap.size w w1) := ⟨b_⟩
 have gqk := lh hqk0
 clear b_
 have HQ : Keep (∀ wx, Below w1.heap.size w1 wx → wx.cell? ⟨qk, 0, none⟩ = some (.int .i64 kind)) := ⟨fun wx hb => (K1.o.below hb K1.o.lt).c 0 rfl⟩
 simp only [Act.put, pqA, pqB, pqC]
 refine Vv (.slice none 0 0) (h:=WL.nil (hK1 _ _ (wp_seq_k fun K2 hK2 => rgn (Vv (.slice la n cap) (h:=Vv (.string key) (h:=Vv (.func (.func 53) #[] #[ptr qk]) (h:=ClS (Kp la n cap at_ L kind key qk w1 hn HN.o (fun h => by obtain ⟨b, off, h1, h2⟩ := HC.o h; exact ⟨b, off, h1, (h2.below B1.o).mono B1.o.size⟩) HQ.o HA.o HAt.o) ?_)))))))
 rintro e w2 ⟨rfl, k1⟩
 refine ⟨_, rfl, ?_⟩
 rw [HF.o]
 have B2 := tb B1 k1
 clear k1
 refine Vv (.tuple #[.int .i64 (at_ : Int), .bool false]) (h:=Vv (.int .i64 (at_ : Int)) (h:=Vf (h:=Vv (.int .i64 (at_ : Int)) (h:=Vf (h:=WL.nil (hK2 _ _ (wp_seq_k fun K3 hK3 => wp_seq_k fun K4 hK4 => rgn (Vf (h:=WL.nil (hK4 _ _ (Cf (h:=wp_skip (hK3 _ _ (wp_seq_k fun K5 hK5 => rgn (Vv (.slice none 0 0) (h:=?_))))))))))))))))
 refine WL.nil (hK5 _ _ (wp_seq_k fun K6 hK6 => wp_seq_k fun K7 hK7 => rgn (Vv (.int .i64 (at_ : Int)) (h:=Vt (h:=WL.nil (hK7 _ _ (Ct (h:=rgn (Vv (.slice none 0 0) (h:=Vv (.int .i64 (at_ : Int)) (h:=Vv (.int .i64 ((at_ - 1 : Nat) : Int)) (h:=?_))))))))))))
 refine WL.bs (by kernel_rfl) 65 1 _ rfl #[(0, .int .i64 ((at_ - 1 : Nat) : Int))] (by simp [Act.eval]) _ _ (Un ((at_ - 1 : Nat) : Int) w2) ?_
 have b_ := qg w2 (.cells #[.int .i64 ((at_ - 1 : Nat) : Int)] 3)
 have Ng := kk (Blk.new w2 3 #[.int .i64 ((at_ - 1 : Nat) : Int)])
 generalize w2.alloc (.cells #[.int .i64 ((at_ - 1 : Nat) : Int)] 3) = w3 at *
 obtain ⟨g, hg⟩ := nm w2
 rw [← hg.o] at Ng ⊢
 have B3 := tb B2 b_
 have gg : Keep (w.heap.size ≤ g) := ⟨by rw [hg.o]; exact B2.o.size⟩
 clear b_
 simp only [Act.put, pqA, pqB, pqC]
 refine WL.appI (by kernel_rfl) (.tmp 22) (.tmp 25) rfl (.slice none 0 0) w.heap.size 0 [] g ((at_ - 1 : Nat) : Int) rfl rfl ⟨rfl, .inl ⟨rfl, rfl⟩⟩ (Ng.o.c 0 rfl) (by omega) B3.o.size ?_
 intro v4 w4 k1 k2 k3
 have O4 : Keep (w4.ownsRow w.heap.size 3 1 v4 (0 + 1) ([] ++ [.int .i64 ((at_ - 1 : Nat) : Int)])) := ⟨k1⟩
 have B4 : Keep (Below w.heap.size w w4) := ⟨B3.o.trans (k2.to_below (fun k hk e => by
  simp [Value.ownBlock] at e) B3.o.size)⟩
 clear k1 k2 k3
 obtain ⟨va, vc, hv4⟩ := qE O4.o
 subst hv4
 simp only [Act.put, pqA, pqB, pqC]
 refine Vv (.slice va (0 + 1) vc) (h:=WL.nil (hK6 _ _ (wp_seq_k fun K8 hK8 => wp_seq_k fun K9 hK9 => rgn (Vv (.int .i64 (at_ : Int)) (h:=Vv (.slice la n cap) (h:=Vv (.int .i64 (n : Int)) (h:=Vt (h:=WL.nil (hK9 _ _ (Ct (h:=rgn (Vv (.slice va (0 + 1) vc) (h:=Vv (.int .i64 (at_ : Int)) (h:=?_))))))))))))))
 refine WL.bs (by kernel_rfl) 65 1 _ rfl #[(0, .int .i64 (at_ : Int))] (by simp [Act.eval]) _ _ (Un (at_ : Int) w4) ?_
 have b_ := qg w4 (.cells #[.int .i64 (at_ : Int)] 3)
 have Nh := kk (Blk.new w4 3 #[.int .i64 (at_ : Int)])
 generalize w4.alloc (.cells #[.int .i64 (at_ : Int)] 3) = w5 at *
 obtain ⟨h, hh⟩ := nm w4
 rw [← hh.o] at Nh ⊢
 have B5 := tb B4 b_
 have gh : Keep (w.heap.size ≤ h) := ⟨by rw [hh.o]; exact B4.o.size⟩
 have b5 := kk b_
 clear b_
 simp only [Act.put, pqA, pqB, pqC]
 refine WL.appI (by kernel_rfl) (.tmp 31) (.tmp 33) rfl (.slice va (0 + 1) vc) w.heap.size (0 + 1) ([] ++ [.int .i64 ((at_ - 1 : Nat) : Int)]) h (at_ : Int) rfl rfl (qj O4.o b5.o) (Nh.o.c 0 rfl) (by omega) B5.o.size ?_
 intro v6 w6 k1 k2 k3
 have O6 : Keep (w6.ownsRow w.heap.size 3 1 v6 ((0 + 1) + 1) (([] ++ [.int .i64 ((at_ - 1 : Nat) : Int)]) ++ [.int .i64 (at_ : Int)])) := ⟨k1⟩
 have B6 : Keep (Below w.heap.size w w6) := ⟨B5.o.trans (k2.to_below (fun k hk e => by
  rcases O4.o.2 with ⟨h1, _⟩ | ⟨g9, c9, cur9, h1, h2, _⟩
  ·rw [h1] at e; cases e
  ·rw [h1] at e; injection e with e; subst e; exact absurd hk (Nat.not_lt.mpr h2)) B5.o.size)⟩
 clear k1 k2 k3
 simp only [Act.put, pqA, pqB, pqC]
 refine Vv (v6) (h:=WL.nil (hK8 _ _ (wp_seq_k fun K10 hK10 => rgn (Vv (v6) (h:=Vv (v6) (h:=WL.nil (hK10 _ _ (wp_ret ?_))))))))
 go_ret
 have hfn : fnd n at_ false = [at_ - 1, at_] := by simp [fnd, h0, h1]
 refine ⟨_, rfl, ?_, B6.o⟩
 rw [hfn]
 exact kj O6.o
theorem GR (la : Option Addr) (n cap at_ : Nat) (L : List CV) (kind : Int) (key : ByteArray) (w : World) (hn : L.length = n) (hn1 : 1 ≤ n) (hN : n ≤ 1099511627776) (hC : 0 < n → ∃ b off, la = some ⟨b, off, none⟩ ∧ CsAt w.heap.size w b off L) (hA : at_ ≤ n) (hAt : ∀ (i : Nat) (c : CV), L[i]? = some c → (stI c.k c.s kind key < 0 ↔ i < at_)) :
  Calls Try.prog 27 #[.slice la n cap, .int .i64 kind, .string key] w fun e w' => ∃ v, e = .returned v ∧ NsV w' v (fnd n at_ (fndB L at_ kind key)) ∧ Below w.heap.size w w' := by
 cases hF : fndB L at_ kind key
 ·by_cases h0 : 0 < at_
  ·by_cases h1 : at_ < n
   ·exact GQ la n cap at_ L kind key w ⟨hn⟩ ⟨hN⟩ ⟨hC⟩ ⟨hA⟩ ⟨hAt⟩ ⟨hF⟩ h0 h1
   ·exact Dw la n cap at_ L kind key w ⟨hn⟩ ⟨hN⟩ ⟨hC⟩ ⟨hA⟩ ⟨hAt⟩ ⟨hF⟩ h0 h1
  ·exact Du la n cap at_ L kind key w ⟨hn⟩ ⟨hN⟩ ⟨hC⟩ ⟨hA⟩ ⟨hAt⟩ ⟨hF⟩ h0 (by omega)
 ·exact Dv la n cap at_ L kind key w ⟨hn⟩ ⟨hN⟩ ⟨hC⟩ ⟨hA⟩ ⟨hAt⟩ ⟨hF⟩
theorem zb (w : World) : (Instr.alloc 25 true (.tuple #[])).run Try.prog w = .ok (.pointer (some ⟨w.heap.size, 0, none⟩)) (w.alloc (.cells #[.int .i64 0, .slice none 0 0] 25)) := by kernel_rfl
theorem VK : Try.prog.built 25 [] = some #[.int .i64 0, .slice none 0 0] := by kernel_rfl
theorem XN (n : Int) : Try.prog.built 25 [(0, .int .i64 n)] = some #[.int .i64 n, .slice none 0 0] := by kernel_rfl
theorem XO (k j : Int) (s : ByteArray) (a : Option Addr) (n c : Nat) (a' : Option Addr) (n' c' : Nat) : Try.prog.built 54 [(0, .int .i64 k), (1, .agg #[.int .i64 j, .string s, .slice a n c]), (2, .slice a' n' c')] = some #[.int .i64 k, .int .i64 j, .string s, .slice a n c, .slice a' n' c'] := by kernel_rfl
theorem Um (k j : Int) (s : ByteArray) (a : Option Addr) (n c : Nat) (a' : Option Addr) (n' c' : Nat) (w : World) : (Instr.buildSlice 23 1 #[(0, .agg #[.int .i64 k, .int .i64 j, .string s, .slice a n c, .slice a' n' c'])]).run Try.prog w = .ok (.slice (some ⟨w.heap.size, 0, none⟩) 1 1) (w.alloc (.cells #[.int .i64 k, .int .i64 j, .string s, .slice a n c, .slice a' n' c'] 54)) := by kernel_rfl
theorem ko : (Try.prog.info? 54).map (fun i => (i.zero, i.size, i.bytes)) = some (some (.agg #[.int .i64 0, .int .i64 0, .string ByteArray.empty, .slice none 0 0, .slice none 0 0]), 5, 80) := by kernel_rfl
theorem Yj (w : World) (ty : TypeId) (B : Nat) (v : Value) (n : Nat) (xs : List Value) (x : LV) (g : Nat) (hown : w.ownsRow B 54 5 v n xs) (hc : w.rangeAt g 0 (lvA x).toList) (ho : (lvA x).all (·.oneCell') = true) (hb : n + 1 ≤ 1048576) (hB : B ≤ w.heap.size) :
  ∃ v' w', (Builtin.append_ #[23, 23] ty #[v, .slice (some ⟨g, 0, none⟩) 1 1]).run Try.prog w = .ok v' w' ∧ w'.ownsRow B 54 5 v' (n + 1) (xs ++ (lvA x).toList) ∧ (Grown w w' fun k => v.ownBlock = some k) ∧ (v'.ownBlock = v.ownBlock ∨ v'.ownBlock = some w.heap.size) := by
 obtain ⟨i, hi, hzz⟩ := Option.map_eq_some_iff.1 ko
 simp only [Prod.mk.injEq] at hzz
 obtain ⟨hz, hsz, hby⟩ := hzz
 obtain ⟨v', w', hr, h1, h2, _, h3⟩ := run_append_own_at (P := Try.prog) w B 23 ty 54 i _ 5 80 Try.underlying23 hi hz hsz hby rfl (by omega) v n xs hown ⟨g, 0, none⟩ 1 1 (lvA x).toList rfl (fun j u hu => by rw [Addr.add_mid]; exact hc j u hu) (fun u hu => by
  rw [Array.all_eq_true'] at ho
  exact ho u (by simpa using hu)) (by unfold maxLen; omega) (by omega) hB
 exact ⟨v', w', hr, h1, Grown.of h2 fun k _ e => e, h3⟩
theorem zP {Q : Exit → Act → World → Prop} {o : Oper} {a : Act} {w : World} {K : Act → World → Prop} (s x : Operand)
  (ho : o.op = .call { callee := .builtin .append, args := #[s, x], argTypes := #[23, 23] }) (B : Nat) (v : Value) (n : Nat) (xs : List Value) (y : LV) (g : Nat)
  (hs : a.eval s = v) (hx : a.eval x = .slice (some ⟨g, 0, none⟩) 1 1) (hown : w.ownsRow B 54 5 v n xs) (hc : w.rangeAt g 0 (lvA y).toList) (hy : (lvA y).all (·.oneCell') = true) (hb : n + 1 ≤ 1048576) (hB : B ≤ w.heap.size)
  (h : ∀ v' w', w'.ownsRow B 54 5 v' (n + 1) (xs ++ (lvA y).toList) → (Grown w w' fun k => v.ownBlock = some k) → (v'.ownBlock = v.ownBlock ∨ v'.ownBlock = some w.heap.size) → K (a.put o.dst v') w') : o.wp Try.prog a w K Q := by
 obtain ⟨v', w', hr, h1, h2, h3⟩ := Yj w o.type B v n xs y g hown hc hy hb hB
 unfold Oper.wp execOp
 simp only [ho, resolve, invoke, builtin, Sem.run_bind, Sem.run_pure, Result.andThen_ok, List.map_toArray, List.map_cons, List.map_nil, hs, hx, hr]
 exact h v' w' h1 h2 h3
def LIs (L : List CV) (ns : List Nat) (ls : List LV) : Prop := ∀ (j k : Nat) (x : LV), ns[j]? = some k → ls[j]? = some x → x.num = (k : Int) ∧ (∃ c, L[k]? = some c ∧ x.c.k = c.k ∧ x.c.s = c.s ∧ x.c.l = c.l) ∧ x.ps.map hsL = zG L.length L k
structure FI (B : Nat) (w0 w : World) (d n : Nat) (vl : Value) (L : List CV) (ns : List Nat) (t : Nat) (ls : List LV) : Prop where
 gr : Grown w0 w (fun k => k = d)
 bd : Blk w d 25 #[.int .i64 (n : Int), vl]
 own : w.ownsRow w0.heap.size 54 5 vl t (ls.flatMap fun x => (lvA x).toList)
 len : ls.length = t
 rows : ∀ x ∈ ls, Own w x.c.v x.c.l ∧ w.ownsRow B 32 32 x.pv x.ps.length (qF x.ps)
 is : LIs L ns ls
theorem Ue {B : Nat} {w : World} {d n : Nat} {L : List CV} {ns : List Nat} (h : Blk w d 25 #[.int .i64 (n : Int), .slice none 0 0]) : FI B w w d n (.slice none 0 0) L ns 0 [] :=
 ⟨Grown.refl _ _, h, ⟨rfl, .inl ⟨rfl, rfl⟩⟩, rfl, fun x hx => by simp at hx, fun j k x _ hx => by simp at hx⟩
theorem ZY {w : World} {B : Nat} {v : Value} {ps : List Hs} (h : w.ownsRow B 32 32 v ps.length (qF ps)) : HPa w.heap.size w v ps := by
 rcases h.2 with ⟨rfl, h0⟩ | ⟨g, cap, cur, rfl, _, h3, h4, h5, h6, h7⟩
 ·exact .inl ⟨none, 0, rfl, List.length_eq_zero_iff.mp h0⟩
 ·refine .inr ⟨g, 0, cap, rfl, h4, (show Typ w g 32 from ⟨cur, _, h3⟩).lt, fun j u hu => ?_⟩
  have hj : j < ps.length * 32 := by have := (List.getElem?_eq_some_iff.mp hu).1; rwa [jy] at this
  have e : cur.toList[j]? = some u := by
   have e2 : (cur.toList.take (ps.length * 32))[j]? = some u := by rw [h7]; exact hu
   rw [List.getElem?_take, if_pos hj] at e2
   exact e2
  rw [Array.getElem?_toList] at e
  rw [Nat.zero_add]
  exact (show Blk w g 32 cur from h3).c j e
theorem KX : ∀ (ls : List LV) (i : Nat) (x : LV), ls[i]? = some x → ∀ (j : Nat) (u : Value), (lvA x).toList[j]? = some u → (ls.flatMap fun x => (lvA x).toList)[i * 5 + j]? = some u
 | a :: r, 0, x, hx, j, u, hu => by
  simp at hx
  subst hx
  have hj : j < 5 := (List.getElem?_eq_some_iff.mp hu).1
  rw [List.flatMap_cons, Nat.zero_mul, Nat.zero_add, List.getElem?_append_left (by show j < 5; exact hj)]
  exact hu
 | a :: r, i + 1, x, hx, j, u, hu => by
  rw [List.flatMap_cons, List.getElem?_append_right (by show 5 ≤ _; omega)]
  have h := KX r i x (by simpa using hx) j u hu
  rw [show (i + 1) * 5 + j - (lvA a).toList.length = i * 5 + j from by show (i + 1) * 5 + j - 5 = _; omega]
  exact h
theorem KS {w : World} {B B' : Nat} {v : Value} {ls : List LV} (h : w.ownsRow B 54 5 v ls.length (ls.flatMap fun x => (lvA x).toList)) (hr : ∀ x ∈ ls, Own w x.c.v x.c.l ∧ w.ownsRow B' 32 32 x.pv x.ps.length (qF x.ps)) : LsV w.heap.size w v ls := by
 rcases h.2 with ⟨rfl, h0⟩ | ⟨g, cap, cur, rfl, _, h3, h4, h5, h6, h7⟩
 ·exact .inl ⟨none, 0, rfl, List.length_eq_zero_iff.mp h0⟩
 ·refine .inr ⟨g, 0, cap, rfl, h4, (show Typ w g 54 from ⟨cur, _, h3⟩).lt, fun i x hx j u hu => ?_, fun x hx => ⟨(hr x hx).1.row, fun _ => (hr x hx).1.lt, ZY (hr x hx).2⟩⟩
  have hi : i < ls.length := (List.getElem?_eq_some_iff.mp hx).1
  have hj : j < 5 := (List.getElem?_eq_some_iff.mp hu).1
  have e : cur.toList[i * 5 + j]? = some u := by
   have e2 : (cur.toList.take (ls.length * 5))[i * 5 + j]? = some u := by rw [h7]; exact KX ls i x hx j u hu
   rw [List.getElem?_take, if_pos (by omega)] at e2
   exact e2
  rw [Array.getElem?_toList] at e
  rw [Nat.zero_add]
  exact (show Blk w g 54 cur from h3).c _ e
structure WtN (w : World) (B : Nat) (v : Value) (ls : List LV) : Prop where
 own : w.ownsRow B 54 5 v ls.length (ls.flatMap fun x => (lvA x).toList)
 rows : ∀ x ∈ ls, Own w x.c.v x.c.l ∧ w.ownsRow B 32 32 x.pv x.ps.length (qF x.ps)
 nv : ∀ x ∈ ls, ∀ k, x.c.v.ownBlock = some k → B ≤ k
 av : ∀ (i j : Nat) (x y : LV), ls[i]? = some x → ls[j]? = some y → i ≠ j → ∀ k, x.c.v.ownBlock = some k → y.c.v.ownBlock ≠ some k
 ap : ∀ (i j : Nat) (x y : LV), ls[i]? = some x → ls[j]? = some y → i ≠ j → ∀ k, x.pv.ownBlock = some k → y.pv.ownBlock ≠ some k
theorem JH (w : World) (B : Nat) : WtN w B (.slice none 0 0) [] :=
 ⟨⟨rfl, .inl ⟨rfl, rfl⟩⟩, fun x hx => by simp at hx, fun x hx => by simp at hx, fun i j x y h => by simp at h, fun i j x y h => by simp at h⟩
theorem WtN.lsv {w : World} {B : Nat} {v : Value} {ls : List LV} (h : WtN w B v ls) : LsV w.heap.size w v ls := KS h.own h.rows
theorem zo {w : World} {A B T s n : Nat} {v : Value} {xs : List Value} (h : w.ownsRow B T s v n xs) (hl : A ≤ B) : w.ownsRow A T s v n xs := by
 refine ⟨h.1, ?_⟩
 rcases h.2 with h1 | ⟨g, cap, cur, rfl, h2, h3⟩
 ·exact .inl h1
 ·exact .inr ⟨g, cap, cur, rfl, Nat.le_trans hl h2, h3⟩
structure FX (B : Nat) (Ps : List PX) (ls : List LV) : Prop where
 px : ∀ (j : Nat) (x : LV) (P : PX), ls[j]? = some x → Ps[j]? = some P → x.pv = P.v
 nv : ∀ x ∈ ls, ∀ k, x.c.v.ownBlock = some k → B ≤ k
 av : ∀ (i j : Nat) (x y : LV), ls[i]? = some x → ls[j]? = some y → i ≠ j → ∀ k, x.c.v.ownBlock = some k → y.c.v.ownBlock ≠ some k
theorem GD (B : Nat) (Ps : List PX) : FX B Ps [] := ⟨fun j x P h => by simp at h, fun x hx => by simp at hx, fun i j x y h => by simp at h⟩
theorem FX.add {B : Nat} {Ps : List PX} {ls : List LV} (h : FX B Ps ls) (x : LV) (P : PX) (hP : Ps[ls.length]? = some P) (hx : x.pv = P.v) (hn : ∀ k, x.c.v.ownBlock = some k → B ≤ k ∧ ∀ y ∈ ls, y.c.v.ownBlock ≠ some k) : FX B Ps (ls ++ [x]) := by
 have get : ∀ (j : Nat) (y : LV), (ls ++ [x])[j]? = some y → (ls[j]? = some y ∧ j < ls.length) ∨ (j = ls.length ∧ y = x) := fun j y hy => by
  by_cases hj : j < ls.length
  ·rw [List.getElem?_append_left hj] at hy
   exact .inl ⟨hy, hj⟩
  ·rw [List.getElem?_append_right (by omega)] at hy
   have hl := (List.getElem?_eq_some_iff.mp hy).1
   simp at hl
   have e : j = ls.length := by omega
   subst e
   simp at hy
   exact .inr ⟨rfl, hy.symm⟩
 refine ⟨fun j y Q hy hQ => ?_, fun y hy k hk => ?_, fun i j y z hy hz hij k hk hk2 => ?_⟩
 ·rcases get j y hy with ⟨h1, _⟩ | ⟨rfl, rfl⟩
  ·exact h.px j y Q h1 hQ
  ·rw [hP] at hQ
   cases hQ
   exact hx
 ·rcases List.mem_append.mp hy with hy | hy
  ·exact h.nv y hy k hk
  ·rw [List.mem_singleton.mp hy] at hk
   exact (hn k hk).1
 ·rcases get i y hy with ⟨h1, l1⟩ | ⟨rfl, rfl⟩
  ·rcases get j z hz with ⟨h2, _⟩ | ⟨rfl, rfl⟩
   ·exact h.av i j y z h1 h2 hij k hk hk2
   ·exact (hn k hk2).2 y (List.mem_of_getElem? h1) hk
  ·rcases get j z hz with ⟨h2, l2⟩ | ⟨rfl, rfl⟩
   ·exact (hn k hk).2 z (List.mem_of_getElem? h2) hk2
   ·exact hij rfl
def FdQ (L : List CV) (kind : Int) (at_ : Nat) (key : ByteArray) (w : World) (e : Ending) (w' : World) : Prop :=
 ∃ (n : Int) (v : Value) (ls : List LV) (er : Int), e = .returned (.tuple #[.agg (wtA n v), .int .i64 er]) ∧ WtN w' w.heap.size v ls ∧ Below w.heap.size w w' ∧
  (zi kind = false → n = 0 ∧ ls = [] ∧ er = 40) ∧ (zi kind = true → qt L ≠ 0 → n = 0 ∧ ls = [] ∧ er = qt L) ∧
  (zi kind = true → qt L = 0 → n = (L.length : Int) ∧ er = 0 ∧ (L = [] → ls = []) ∧ (L ≠ [] → ls.length = (fnd L.length at_ (fndB L at_ kind key)).length ∧ LIs L (fnd L.length at_ (fndB L at_ kind key)) ls))
theorem VE (la : Option Addr) (n cap at_ : Nat) (L : List CV) (kind : Int) (key : ByteArray) (w : World) (hkm : zi kind = false) : Calls Try.prog 8 #[.slice la n cap, .int .i64 kind, .string key] w (FdQ L kind at_ key w) := by
 go_enter Try.func8, Try.ntmps8
 refine wp_seq_k fun K1 hK1 => rgn (zU 25 zb fun r w1 hr0 R1 b_ => ?_)
 have B1 : Keep (Below w.heap.size w w1) := ⟨b_⟩
 have gr := lh hr0
 clear b_
 refine Vv (.int .i64 0) (h:=WL.nil (hK1 _ _ (wp_seq_k fun K2 hK2 => wp_seq_k fun K3 hK3 => rgn (Vv (.int .i64 kind) (h:=ClS (vs := #[.int .i64 kind]) (zL kind _) ?_)))))
 rintro e w1_z ⟨rfl, hw_⟩
 refine ⟨_, rfl, ?_⟩
 have hw_ := hw_.symm
 subst hw_
 rw [hkm]
 refine Vt (h:=WL.nil (hK3 _ _ (Ct (h:=wp_seq_k fun K4 hK4 => rgn (?_)))))
 refine WL.bld (by kernel_rfl) 25 #[] rfl [] (by simp) #[.int .i64 0, .slice none 0 0] VK ?_
 simp only [Act.put, pqA, pqB, pqC]
 refine WL.storeR (by kernel_rfl) 25 (.tmp 6) (.tmp 18) rfl r #[.int .i64 0, .slice none 0 0] rfl rfl 25 #[.int .i64 0, .slice none 0 0] R1.o (by rfl) rfl (by simp [Value.oneCell']) ?_
 have R9 := kk (R1.o.setRow #[.int .i64 0, .slice none 0 0])
 have B9 : Keep (Below w.heap.size w (w1.setRow r #[.int .i64 0, .slice none 0 0])) := ⟨qf B1.o gr.o _⟩
 generalize w1.setRow r #[.int .i64 0, .slice none 0 0] = w9 at *
 simp only [Act.put]
 refine Vv (.int .i64 40) (h:=WL.nil (hK4 _ _ (wp_ret ?_)))
 try simp only [Exit.inBlock, Exit.then]
 refine bodyPost_ret (v := .tuple #[.agg #[.int .i64 0, .slice none 0 0], .int .i64 40]) (qp Try.results8 _ _ r 25 _ (0, 0) _ _ rfl rfl R9.o Try.underlying25 rfl (by rfl)) rfl ⟨0, .slice none 0 0, [], 40, rfl, JH _ _, B9.o, fun _ => ⟨rfl, rfl, rfl⟩, (fun h => by rw [hkm] at h; cases h), (fun h => by rw [hkm] at h; cases h)⟩
theorem Uf (la : Option Addr) (n cap at_ : Nat) (L : List CV) (kind : Int) (key : ByteArray) (w : World) (er : Int) (hkm : zi kind = true) (hwi : Keep (qt L = er)) (her : ¬ er = 0) (HC : Keep (CsV w.heap.size w (.slice la n cap) L)) (HN : Keep (L.length ≤ 4398046511104)) : Calls Try.prog 8 #[.slice la n cap, .int .i64 kind, .string key] w (FdQ L kind at_ key w) := by
 have her' : (er == 0) = false := by simpa using her
 go_enter Try.func8, Try.ntmps8
 refine wp_seq_k fun K1 hK1 => rgn (zU 25 zb fun r w1 hr0 R1 b_ => ?_)
 have B1 : Keep (Below w.heap.size w w1) := ⟨b_⟩
 have gr := lh hr0
 clear b_
 refine Vv (.int .i64 0) (h:=WL.nil (hK1 _ _ (wp_seq_k fun K2 hK2 => wp_seq_k fun K3 hK3 => rgn (Vv (.int .i64 kind) (h:=ClS (vs := #[.int .i64 kind]) (zL kind _) ?_)))))
 rintro e w1_z ⟨rfl, hw_⟩
 refine ⟨_, rfl, ?_⟩
 have hw_ := hw_.symm
 subst hw_
 rw [hkm]
 refine Vf (h:=WL.nil (hK3 _ _ (Cf (h:=wp_skip (hK2 _ _ (wp_seq_k fun K4 hK4 => wp_seq_k fun K5 hK5 => rgn (Vv (.slice la n cap) (h:=ClS (vs := #[.slice la n cap]) (jx w.heap.size _ L w1 (HC.o.below B1.o) B1.o.size HN.o) ?_))))))))
 rintro e w2 ⟨rfl, k1⟩
 refine ⟨_, rfl, ?_⟩
 rw [hwi.o]
 have R2 := kbx R1 k1
 have B2 := tb B1 k1
 clear k1
 refine Vv (.int .i64 er) (h:=WL.nil (hK5 _ _ (wp_seq_k fun K6 hK6 => rgn (Vv (.int .i64 er) (h:=Vt (h:=WL.nil (hK6 _ _ (Ct (h:=wp_seq_k fun K7 hK7 => rgn (?_))))))))))
 refine WL.bld (by kernel_rfl) 25 #[] rfl [] (by simp) #[.int .i64 0, .slice none 0 0] VK ?_
 simp only [Act.put, pqA, pqB, pqC]
 refine VlS (.int .i64 er) ?_
 refine WL.storeR (by kernel_rfl) 25 (.tmp 6) (.tmp 23) rfl r #[.int .i64 0, .slice none 0 0] rfl rfl 25 #[.int .i64 0, .slice none 0 0] R2.o (by rfl) rfl (by simp [Value.oneCell']) ?_
 have R9 := kk (R2.o.setRow #[.int .i64 0, .slice none 0 0])
 have B9 : Keep (Below w.heap.size w (w2.setRow r #[.int .i64 0, .slice none 0 0])) := ⟨qf B2.o gr.o _⟩
 generalize w2.setRow r #[.int .i64 0, .slice none 0 0] = w9 at *
 simp only [Act.put]
 refine Vv (.int .i64 er) (h:=WL.nil (hK7 _ _ (wp_ret ?_)))
 try simp only [Exit.inBlock, Exit.then]
 refine bodyPost_ret (v := .tuple #[.agg #[.int .i64 0, .slice none 0 0], .int .i64 er]) (qp Try.results8 _ _ r 25 _ (0, 0) _ _ rfl rfl R9.o Try.underlying25 rfl (by rfl)) rfl ⟨0, .slice none 0 0, [], er, rfl, JH _ _, B9.o, (fun h => by rw [hkm] at h; cases h), (fun _ _ => ⟨rfl, rfl, hwi.o.symm⟩), (fun _ h => absurd (hwi.o.symm.trans h) her)⟩
theorem VD (la : Option Addr) (cap at_ : Nat) (kind : Int) (key : ByteArray) (w : World) (hkm : zi kind = true) (HC : Keep (CsV w.heap.size w (.slice la 0 cap) [])) : Calls Try.prog 8 #[.slice la 0 cap, .int .i64 kind, .string key] w (FdQ [] kind at_ key w) := by
 go_enter Try.func8, Try.ntmps8
 refine wp_seq_k fun K1 hK1 => rgn (zU 25 zb fun r w1 hr0 R1 b_ => ?_)
 have B1 : Keep (Below w.heap.size w w1) := ⟨b_⟩
 have gr := lh hr0
 clear b_
 refine Vv (.int .i64 0) (h:=WL.nil (hK1 _ _ (wp_seq_k fun K2 hK2 => wp_seq_k fun K3 hK3 => rgn (Vv (.int .i64 kind) (h:=ClS (vs := #[.int .i64 kind]) (zL kind _) ?_)))))
 rintro e w1_z ⟨rfl, hw_⟩
 refine ⟨_, rfl, ?_⟩
 have hw_ := hw_.symm
 subst hw_
 rw [hkm]
 refine Vf (h:=WL.nil (hK3 _ _ (Cf (h:=wp_skip (hK2 _ _ (wp_seq_k fun K4 hK4 => wp_seq_k fun K5 hK5 => rgn (Vv (.slice la 0 cap) (h:=?_))))))))
 refine WL.callF (by kernel_rfl) 23 _ _ rfl DV #[.slice la 0 cap] (by simp [Act.eval]) ?_
 refine (jx w.heap.size _ [] w1 (HC.o.below B1.o) B1.o.size (by simp)).mono ?_
 rintro e w2 ⟨rfl, k1⟩
 refine ⟨_, rfl, ?_⟩
 change WL _ _ _ _ (Act.put _ _ (.int .i64 0)) w2
 have R2 := kbx R1 k1
 have B2 := tb B1 k1
 clear k1
 simp only [Act.put, pqA, pqB, pqC]
 refine Vv (.int .i64 0) (h:=WL.nil (hK5 _ _ (wp_seq_k fun K6 hK6 => rgn (Vv (.int .i64 0) (h:=Vf (h:=WL.nil (hK6 _ _ (Cf (h:=wp_skip (hK4 _ _ (wp_seq_k fun K7 hK7 => rgn (Vv (.slice la 0 cap) (h:=Vv (.int .i64 0) (h:=?_))))))))))))))
 refine WL.bld (by kernel_rfl) 25 #[(0, .tmp 26)] rfl [(0, .int .i64 0)] (by simp [Act.eval]) #[.int .i64 0, .slice none 0 0] (XN 0) ?_
 simp only [Act.put, pqA, pqB, pqC]
 refine zU 25 zb fun d w3 hd0 D3 b_ => ?_
 have R3 := kbx R2 b_
 have B3 := tb B2 b_
 have gd : Keep (w.heap.size ≤ d) := ⟨by rw [hd0.o]; exact B2.o.size⟩
 clear b_
 have hrd : Keep (r ≠ d) := ⟨by have := R2.o.lt; have := hd0.o; omega⟩
 refine WL.storeR (by kernel_rfl) 25 (.tmp 9) (.tmp 27) rfl d #[.int .i64 0, .slice none 0 0] rfl rfl 25 #[.int .i64 0, .slice none 0 0] D3.o (by rfl) rfl (by simp [Value.oneCell']) ?_
 have D4 := kk (D3.o.setRow #[.int .i64 0, .slice none 0 0])
 have B4 : Keep (Below w.heap.size w (w3.setRow d #[.int .i64 0, .slice none 0 0])) := ⟨qf B3.o gd.o _⟩
 have R4 := kk (R3.o.setRow_ne hrd.o #[.int .i64 0, .slice none 0 0])
 generalize w3.setRow d #[.int .i64 0, .slice none 0 0] = w4 at *
 simp only [Act.put]
 refine WL.nil (hK7 _ _ (wp_seq_k fun K8 hK8 => wp_seq_k fun K9 hK9 => rgn (Vv (.slice la 0 cap) (h:=Vv (.int .i64 0) (h:=Vt (h:=WL.nil (hK9 _ _ (Ct (h:=wp_seq_k fun K10 hK10 => rgn (?_))))))))))
 refine WL.row (by kernel_rfl) 25 (.tmp 9) rfl d rfl 25 #[.int .i64 0, .slice none 0 0] _ D4.o Try.underlying25 rfl (by rfl) ?_
 simp only [Act.put, pqA, pqB, pqC]
 refine WL.storeR (by kernel_rfl) 25 (.tmp 6) (.tmp 31) rfl r #[.int .i64 0, .slice none 0 0] rfl rfl 25 #[.int .i64 0, .slice none 0 0] R4.o (by rfl) rfl (by simp [Value.oneCell']) ?_
 have R9 := kk (R4.o.setRow #[.int .i64 0, .slice none 0 0])
 have B9 : Keep (Below w.heap.size w (w4.setRow r #[.int .i64 0, .slice none 0 0])) := ⟨qf B4.o gr.o _⟩
 generalize w4.setRow r #[.int .i64 0, .slice none 0 0] = w9 at *
 simp only [Act.put]
 refine Vv (.int .i64 0) (h:=WL.nil (hK10 _ _ (wp_ret ?_)))
 try simp only [Exit.inBlock, Exit.then]
 refine bodyPost_ret (v := .tuple #[.agg #[.int .i64 0, .slice none 0 0], .int .i64 0]) (qp Try.results8 _ _ r 25 _ (0, 0) _ _ rfl rfl R9.o Try.underlying25 rfl (by rfl)) rfl ⟨0, .slice none 0 0, [], 0, rfl, JH _ _, B9.o, (fun h => by rw [hkm] at h; cases h), (fun _ h => absurd rfl h), (fun _ _ => ⟨rfl, rfl, fun _ => rfl, fun h => absurd rfl h⟩)⟩
end Go.Proofs.Ytdpcjfafbmhceaa
