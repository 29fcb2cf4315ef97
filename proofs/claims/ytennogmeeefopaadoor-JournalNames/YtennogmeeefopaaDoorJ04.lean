import Derived.Test.YtennogmeeefopaaDoorJ03
import Derived.Test.YtennogmeeefopaaDoorJ02
import Derived.Deep.RegionHeld3
import Derived.WalkKit
import Derived.WalkSpells
import Derived.WalkLawsBesides
import Derived.BigQuiet
import Derived.BigRegion
import Derived.Deep.WholeRow
import Derived.Deep.MidRow
import Derived.Deep.RegionWith
import Derived.Deep.DeepCutAuto
import Derived.Laws.CopyRow
import Derived.Laws.CopyOwn
namespace Go.Proofs.YtennogmeeefopaaDoor
open Go.RowKit
set_option linter.unusedSimpArgs false
set_option linter.unusedVariables false

theorem Tryd.in45 (w : World) (vs : Array Value) : (callFunc 45 vs).run Tryd.prog w = .ok (.enter 45 vs) w := by kernel_rfl
theorem bcl {B : Nat} {a b : World} (h : Below B a b) {k j : Nat} {v : Value} (hk : k < B ∧ a.cell? ⟨k, j, none⟩ = some v) : b.cell? ⟨k, j, none⟩ = some v := by
  have : b.cell? ⟨k, j, none⟩ = a.cell? ⟨k, j, none⟩ := by simp only [World.cell?, h.block k hk.1]
  rw [this]; exact hk.2
theorem wp_cellS {P : Program} {Q : Exit → Act → World → Prop} {o : Oper} {a : Act} {w : World} {K : Act → World → Prop} (w' : World) (hrun : (execOp a.eval o).run P w = .ok .skip w') (h : K (a.put o.dst undef) w') : o.wp P a w K Q := by unfold Oper.wp; rw [hrun, Oper.upon_skip]; exact h
/-- A new file. -/
def DV.appNew (D : DV) (i : Nat) (n : ByteArray) (l : List Int) : DV := DV.act { D with fs := D.fs.take i ++ [⟨n, l, 0⟩] ++ D.fs.drop i, used := D.used + (l.length : Int) }
/-- A list's block is new. -/
def NewF (B : Nat) (v : Value) : Prop := ∀ k, v.ownBlock = some k → B ≤ k
theorem own_new {w w' : World} {v v' : Value} {l : List Int} {B : Nat} (h : AppPost w v l v' w') (hB : B ≤ w.heap.size) (hv : ∀ k, v.ownBlock = some k → B ≤ k) : ∀ k, v'.ownBlock = some k → B ≤ k := fun k hk => by
  rcases h.moved with e | ⟨j, e, hj⟩
  · exact hv k (by rw [← e]; exact hk)
  · rw [e] at hk; injection hk; omega
theorem NewF.at {B g n c : Nat} (h : B ≤ g) : NewF B (.slice (some ⟨g, 0, none⟩) n c) := fun k hk => by have e : g = k := Option.some.inj hk; omega
theorem NewF.moved {B : Nat} {v v' : Value} {w : World} (h : NewF B v) (hB : B ≤ w.heap.size) (hm : Moved w v v') : NewF B v' := fun k hk => by
  rcases hm with e | ⟨j, e, hj⟩
  · exact h k (by rw [← e]; exact hk)
  · rw [hk] at e; have := Option.some.inj e; omega
theorem newF_below {v : Value} {w0 w w' : World} (h : NewF w0.heap.size v) (hb : Below w0.heap.size w0 w) (hg : Grown w w' fun k => v.ownBlock = some k) : Below w0.heap.size w0 w' := hb.trans (hg.to_below (fun k hk e => by have := h k e; omega) hb.size)
theorem srcF_one {w : World} {g : Nat} {x : FC} (h : Blk w g 70 (fA x)) : SrcF w (.slice (some ⟨g, 0, none⟩) 1 1) [x] := .inr ⟨g, 0, 1, rfl, fun j u hj => by rw [Nat.zero_add, h.cell]; simpa [fL] using hj⟩
theorem ownF_frozen {w : World} {g n c : Nat} {l : List FC} (h : OwnF w (.slice (some ⟨g, 0, none⟩) n c) l) (j : Nat) : w.frozen? ⟨g, j, none⟩ = false := by
  rcases h.form with ⟨e, _⟩ | ⟨g', cap, cur, e, hb, _⟩
  · cases e
  · injection e with e1 e2 e3
    injection e1 with e1
    injection e1 with e1
    subst e1
    exact hb.frozen _
theorem dsk_ins {w : World} {p : Nat} {vf v7 : Value} {cs csi : List FC} {D : DV} {i : Nat} {n : ByteArray} (h : DskAt w p vf cs D) (ho : OwnF w v7 csi) (hp : v7.ownBlock ≠ some p) (hc : csi = cs.take i ++ [(⟨n, .slice none 0 0, 0⟩ : FC)] ++ cs.drop i) (hi : i ≤ cs.length) : DskAt (w.setCell ⟨p, 0, none⟩ v7) p v7 csi { D with fs := D.fs.take i ++ [⟨n, [], 0⟩] ++ D.fs.drop i } := by
  have hg : Grown w (w.setCell ⟨p, 0, none⟩ v7) fun k => k = p := Grown.setCell w p 0 _ fun _ => rfl
  refine ⟨?_, ho.grown hg fun k hk e => hp (by rw [← e]; exact hk), ?_⟩
  · exact h.blk.set 0 v7
  · rw [hc]
    exact (h.fcs.ins i hi n).grown hg fun k hk e => by subst e; have := hk.one h.blk.typ; revert this; decide
theorem dsk_put {w w9 : World} {p g7 n7 k7 i : Nat} {cs csi : List FC} {D : DV} {n : ByteArray} {l : List Int} {a9 : Option Addr} {n9 k9 : Nat} (h : DskAt w p (.slice (some ⟨g7, 0, none⟩) n7 k7) csi { D with fs := D.fs.take i ++ [⟨n, [], 0⟩] ++ D.fs.drop i }) (ha : AppPost w.drew (.slice none 0 0) ([] ++ l) (.slice a9 n9 k9) w9) (hb : Below w.heap.size w w9) (hc : csi = cs.take i ++ [(⟨n, .slice none 0 0, 0⟩ : FC)] ++ cs.drop i) (hi : i ≤ cs.length) :
    DskAt (w9.setCell ⟨g7, i * 3 + 1, none⟩ (.slice a9 n9 k9)) p (.slice (some ⟨g7, 0, none⟩) n7 k7) (csi.set i ⟨n, .slice a9 n9 k9, 0⟩) { D with fs := D.fs.take i ++ [⟨n, l, 0⟩] ++ D.fs.drop i } := by
  have hg : Grown w9 (w9.setCell ⟨g7, i * 3 + 1, none⟩ (.slice a9 n9 k9)) fun k => k = g7 := Grown.setCell w9 g7 _ _ fun _ => rfl
  have h9 := h.below hb
  have hx : csi[i]? = some (⟨n, .slice none 0 0, 0⟩ : FC) := by rw [hc, ins_get _ _ _ _ hi, if_neg (Nat.lt_irrefl i), if_pos rfl]
  have ht : Typ w9 g7 70 := h9.own.typ rfl
  have hl : i < csi.length := (List.getElem?_eq_some_iff.1 hx).1
  have hfs : i ≤ D.fs.length := by have := h.fcs.len; rw [hc] at this; simp at this; omega
  refine ⟨hg.blk h9.blk fun e => ?_, h9.own.set hx (by omega) rfl, ?_⟩
  · subst e; have := ht.one h9.blk.typ; revert this; decide
  · have hf := h9.fcs.set (w' := w9.setCell ⟨g7, i * 3 + 1, none⟩ (.slice a9 n9 k9)) (x := ⟨n, .slice a9 n9 k9, 0⟩) (f := ⟨n, l, 0⟩) hl ⟨rfl, rfl, ?_⟩ (fun j y g hj hy hgj => (h9.fcs.each j y g hy hgj).grown hg fun k hk e => ?_) (fun j y k hj hy hk hyk => ?_)
    · rw [ins_set _ _ _ _ hfs] at hf; exact hf
    · have ho := ha.1
      rw [List.nil_append] at ho
      exact ho.grown hg fun k hk e => by subst e; have := (ho.typ hk).one ht; revert this; decide
    · subst e; have := hk.one ht; revert this; decide
    · have h1 := own_new (B := w.heap.size) ha (Nat.le_refl _) (fun j hj => by cases hj) k hk
      have hjl := (List.getElem?_eq_some_iff.1 hy).1
      rw [h.fcs.len] at hjl
      have h2 := (h.fcs.each j y _ hy (List.getElem?_eq_getElem hjl)).2.2.lt k hyk
      omega
theorem dsk_new {B p g7 n7 k7 i : Nat} {vf : Value} {cs csi : List FC} {n : ByteArray} {x : FC} (h7 : NewF B (.slice (some ⟨g7, 0, none⟩) n7 k7)) (hc : csi = cs.take i ++ [(⟨n, .slice none 0 0, 0⟩ : FC)] ++ cs.drop i) (hi : i ≤ cs.length) (hx : ∀ k, x.b.ownBlock = some k → B ≤ k) : ∀ k, DskS p (.slice (some ⟨g7, 0, none⟩) n7 k7) (csi.set i x) k → DskS p vf cs k ∨ B ≤ k := by
  rintro k (e | e | ⟨j, y, hy, e⟩)
  · exact .inl (.inl e)
  · exact .inr (h7 k e)
  · rw [hc, ins_set _ _ _ _ hi, ins_get _ _ _ _ hi] at hy
    split at hy
    · exact .inl (.inr (.inr ⟨j, y, hy, e⟩))
    · split at hy
      · injection hy with hy; subst hy; exact .inr (hx k e)
      · exact .inl (.inr (.inr ⟨_, y, hy, e⟩))
set_option maxRecDepth 8000 in
set_option maxHeartbeats 2000000 in
theorem append_new (d p i : Nat) (n : ByteArray) (v vf : Value) (l : List Int) (cs : List FC) (D : DV) (w : World) (hDk : Blk w d 75 #[ptr p]) (hD : DskAt w p vf cs D) (hO : D.out = false) (hRg : rgt n = true) (hF : fnd n D.fs 0 = (i, false)) (hL : cs.length < 256)
    (hU : 0 ≤ D.used ∧ 0 ≤ D.room ∧ D.room ≤ 70368744177664 ∧ (l.length : Int) ≤ D.room - D.used) (hA : 0 ≤ D.acts ∧ D.acts ≤ 4611686018427387904) (hFu : -9223372036854775808 < D.fuse ∧ D.fuse ≤ 9223372036854775807 ∧ ¬ D.fuse = 0) (hR : RowAt w v l) (hRp : ∀ k, v.ownBlock = some k → k ≠ p) :
    Calls Tryd.prog 45 #[ptr d, .string n, v] w fun e w' => e = .returned (.int .i64 0) ∧ ∃ vf' cs', DskAt w' p vf' cs' (D.appNew i n l) ∧ (Grown w w' fun k => k = p) ∧ ∀ k, DskS p vf' cs' k → DskS p vf cs k ∨ w.heap.size ≤ k := by
  obtain ⟨va, vc, rfl⟩ := hD.own.sl
  obtain ⟨ba, bc, rfl⟩ := row_form hR
  have HDk := Keep.mk hDk
  have HD := Keep.mk hD
  have HDp : Keep (p < w.heap.size) := ⟨hD.blk.lt⟩
  have HO := Keep.mk hO
  have HRg := Keep.mk hRg
  have HF := Keep.mk hF
  have HL := Keep.mk hL
  have HU := Keep.mk hU
  have HA := Keep.mk hA
  have HFu := Keep.mk hFu
  have HR := Keep.mk hR
  have HRp := Keep.mk hRp
  clear hDk hD hO hRg hF hL hU hA hFu hR hRp
  go_enter Tryd.func45, Tryd.ntmps45
  have cd := HDk.out.c 0 (by rfl : (#[ptr p] : Array Value)[0]? = some (ptr p))
  have c4 : w.cell? ⟨p, 4, none⟩ = some (.bool false) := by have h := HD.out.blk.c 4 (by rfl : (stA (.slice va cs.length vc) D)[4]? = some (.bool D.out)); rw [HO.out] at h; exact h
  refine wp_seq_k fun K1 hK1 => ?_
  refine wp_region_list (WL.out ?_)
  refine WL.val (by kernel_rfl) (.int .i64 0) (by go_simp) ?_
  simp only [Act.put, List.setIfInBounds_toArray, List.set_cons_zero, List.set_cons_succ]
  refine WL.nil ?_
  refine hK1 _ _ ?_
  refine wp_seq_k fun K2 hK2 => ?_
  refine wp_region_list (WL.out ?_)
  refine WL.val (by kernel_rfl) (.pointer (some ⟨d, 0, none⟩)) (by go_simp) ?_
  simp only [Act.put, List.setIfInBounds_toArray, List.set_cons_zero, List.set_cons_succ]
  refine WL.val (by kernel_rfl) (.pointer (some ⟨d, 0, none⟩)) (by go_simp) ?_
  simp only [Act.put, List.setIfInBounds_toArray, List.set_cons_zero, List.set_cons_succ]
  refine WL.val (by kernel_rfl) (.pointer (some ⟨d, 0, none⟩)) (by go_simp) ?_
  simp only [Act.put, List.setIfInBounds_toArray, List.set_cons_zero, List.set_cons_succ]
  refine WL.val (by kernel_rfl) (.pointer (some ⟨p, 0, none⟩)) (by go_simp) ?_
  simp only [Act.put, List.setIfInBounds_toArray, List.set_cons_zero, List.set_cons_succ]
  refine WL.val (by kernel_rfl) (.pointer (some ⟨p, 0, none⟩)) (by go_simp) ?_
  simp only [Act.put, List.setIfInBounds_toArray, List.set_cons_zero, List.set_cons_succ]
  refine WL.nil ?_
  refine hK2 _ _ ?_
  refine wp_seq_k fun K3 hK3 => ?_
  refine wp_seq_k fun K4 hK4 => ?_
  refine wp_region_list (WL.out ?_)
  refine WL.val (by kernel_rfl) (.pointer (some ⟨p, 0, none⟩)) (by go_simp) ?_
  simp only [Act.put, List.setIfInBounds_toArray, List.set_cons_zero, List.set_cons_succ]
  refine WL.val (by kernel_rfl) (.pointer (some ⟨p, 0, none⟩)) (by go_simp) ?_
  simp only [Act.put, List.setIfInBounds_toArray, List.set_cons_zero, List.set_cons_succ]
  refine WL.val (by kernel_rfl) (.pointer (some ⟨p, 4, none⟩)) (by go_simp) ?_
  simp only [Act.put, List.setIfInBounds_toArray, List.set_cons_zero, List.set_cons_succ]
  refine WL.val (by kernel_rfl) (.bool false) (by go_simp) ?_
  simp only [Act.put, List.setIfInBounds_toArray, List.set_cons_zero, List.set_cons_succ]
  refine WL.nil ?_
  refine hK4 _ _ ?_
  refine wp_cond_false rfl ?_
  refine wp_skip ?_
  refine hK3 _ _ ?_
  refine wp_seq_k fun K5 hK5 => ?_
  refine wp_seq_k fun K6 hK6 => ?_
  refine wp_region_list (WL.out ?_)
  refine WL.val (by kernel_rfl) (.string n) (by go_simp) ?_
  simp only [Act.put, List.setIfInBounds_toArray, List.set_cons_zero, List.set_cons_succ]
  clear cd c4
  have hrt := right_any n w
  rw [HRg.out] at hrt
  refine WL.callF (by kernel_rfl) 34 _ _ rfl Tryd.in34 #[.string n] (by simp [Act.eval]) ?_
  refine (hrt).mono ?_
  rintro e wz ⟨rfl, hz⟩
  refine ⟨_, rfl, ?_⟩
  subst hz
  clear hrt
  simp only [Act.put, List.setIfInBounds_toArray, List.set_cons_zero, List.set_cons_succ]
  refine WL.val (by kernel_rfl) (.bool false) (by go_simp) ?_
  simp only [Act.put, List.setIfInBounds_toArray, List.set_cons_zero, List.set_cons_succ]
  refine WL.nil ?_
  refine hK6 _ _ ?_
  refine wp_cond_false rfl ?_
  refine wp_skip ?_
  refine hK5 _ _ ?_
  refine wp_seq_k fun K7 hK7 => ?_
  refine wp_region_list (WL.out ?_)
  refine WL.val (by kernel_rfl) (.pointer (some ⟨p, 0, none⟩)) (by go_simp) ?_
  simp only [Act.put, List.setIfInBounds_toArray, List.set_cons_zero, List.set_cons_succ]
  refine WL.val (by kernel_rfl) (.string n) (by go_simp) ?_
  simp only [Act.put, List.setIfInBounds_toArray, List.set_cons_zero, List.set_cons_succ]
  have hfd := find_any p n _ cs D wz HD.out (by have := HL.out; omega)
  rw [HF.out] at hfd
  refine WL.callF (by kernel_rfl) 33 _ _ rfl Tryd.in33 #[ptr p, .string n] (by simp [Act.eval]) ?_
  refine (hfd).mono ?_
  rintro e w1 ⟨rfl, hb1⟩
  refine ⟨_, rfl, ?_⟩
  have HD1 := Keep.mk (HD.out.below hb1)
  have B1 := Keep.mk hb1
  have c0 := HD1.out.blk.c 0 (by rfl : (stA (.slice va cs.length vc) D)[0]? = some (.slice va cs.length vc))
  clear hb1 hfd
  have hlt : (cs.length : Int) < 256 := by have := HL.out; omega
  simp only [Act.put, List.setIfInBounds_toArray, List.set_cons_zero, List.set_cons_succ]
  refine WL.val (by kernel_rfl) (.tuple #[.int .i64 (i : Int), .bool false]) (by go_simp) ?_
  simp only [Act.put, List.setIfInBounds_toArray, List.set_cons_zero, List.set_cons_succ]
  refine WL.val (by kernel_rfl) (.int .i64 (i : Int)) (by go_simp) ?_
  simp only [Act.put, List.setIfInBounds_toArray, List.set_cons_zero, List.set_cons_succ]
  refine WL.val (by kernel_rfl) (.bool false) (by go_simp) ?_
  simp only [Act.put, List.setIfInBounds_toArray, List.set_cons_zero, List.set_cons_succ]
  refine WL.val (by kernel_rfl) (.int .i64 (i : Int)) (by go_simp) ?_
  simp only [Act.put, List.setIfInBounds_toArray, List.set_cons_zero, List.set_cons_succ]
  refine WL.val (by kernel_rfl) (.bool false) (by go_simp) ?_
  simp only [Act.put, List.setIfInBounds_toArray, List.set_cons_zero, List.set_cons_succ]
  refine WL.nil ?_
  refine hK7 _ _ ?_
  refine wp_seq_k fun K8 hK8 => ?_
  refine wp_seq_k fun K9 hK9 => ?_
  refine wp_region_list (WL.out ?_)
  refine WL.val (by kernel_rfl) (.bool false) (by go_simp) ?_
  simp only [Act.put, List.setIfInBounds_toArray, List.set_cons_zero, List.set_cons_succ]
  refine WL.val (by kernel_rfl) (.bool true) (by go_simp) ?_
  simp only [Act.put, List.setIfInBounds_toArray, List.set_cons_zero, List.set_cons_succ]
  refine WL.val (by kernel_rfl) (.bool true) (by go_simp) ?_
  simp only [Act.put, List.setIfInBounds_toArray, List.set_cons_zero, List.set_cons_succ]
  refine WL.val (by kernel_rfl) (.pointer (some ⟨p, 0, none⟩)) (by go_simp) ?_
  simp only [Act.put, List.setIfInBounds_toArray, List.set_cons_zero, List.set_cons_succ]
  refine WL.val (by kernel_rfl) (.pointer (some ⟨p, 0, none⟩)) (by go_simp) ?_
  simp only [Act.put, List.setIfInBounds_toArray, List.set_cons_zero, List.set_cons_succ]
  refine WL.val (by kernel_rfl) (.pointer (some ⟨p, 0, none⟩)) (by go_simp) ?_
  simp only [Act.put, List.setIfInBounds_toArray, List.set_cons_zero, List.set_cons_succ]
  refine WL.val (by kernel_rfl) (.slice va cs.length vc) (by go_simp) ?_
  simp only [Act.put, List.setIfInBounds_toArray, List.set_cons_zero, List.set_cons_succ]
  refine WL.val (by kernel_rfl) (.int .i64 (cs.length : Int)) (by go_simp) ?_
  simp only [Act.put, List.setIfInBounds_toArray, List.set_cons_zero, List.set_cons_succ]
  refine WL.val (by kernel_rfl) (.bool false) (by go_simp) ?_
  simp only [Act.put, List.setIfInBounds_toArray, List.set_cons_zero, List.set_cons_succ]
  refine WL.val (by kernel_rfl) (.bool false) (by go_simp) ?_
  simp only [Act.put, List.setIfInBounds_toArray, List.set_cons_zero, List.set_cons_succ]
  refine WL.nil ?_
  refine hK9 _ _ ?_
  refine wp_cond_false rfl ?_
  refine wp_skip ?_
  refine hK8 _ _ ?_
  refine wp_seq_k fun K10 hK10 => ?_
  refine wp_seq_k fun K11 hK11 => ?_
  have hS0 : Keep (w1.drew.cell? ⟨p, 1, none⟩ = some (.int .i64 D.room) ∧ w1.drew.cell? ⟨p, 2, none⟩ = some (.int .i64 D.used)) := ⟨HD1.out.blk.drew.c 1 rfl, HD1.out.blk.drew.c 2 rfl⟩
  have hwr : IntKind.i64.wrap (D.room - D.used) = D.room - D.used := by rw [IntKind.wrap_i64]; have := HU.out; omega
  have hle : ¬ D.room - D.used < (l.length : Int) := by have := HU.out; omega
  refine wp_region_held_drew (S := fun wx => wx.cell? ⟨p, 1, none⟩ = some (.int .i64 D.room) ∧ wx.cell? ⟨p, 2, none⟩ = some (.int .i64 D.used)) (by kernel_rfl) (hS0.out) (fun hHeld => ?_)
  refine wpAnyH_take (i := 0) (oi := ⟨some 38, Op.move (Operand.tmp 2), 37, _, _, none⟩) (v := .slice ba l.length bc) rfl (by kernel_rfl) (by kernel_rfl) (by kernel_rfl) (fun _ _ _ h => h) (Or.inl ⟨by rfl, fun w hS => by obtain ⟨hS1, hS2⟩ := hS; go_simp⟩) hHeld ?_
  simp only [Act.put, List.setIfInBounds_toArray, List.set_cons_zero, List.set_cons_succ]
  refine wpAnyH_take (i := 1) (oi := ⟨some 39, Op.call { callee := Callee.builtin Builtin.len, args := #[Operand.tmp 38], argTypes := #[37] }, 3, _, _, none⟩) (v := .int .i64 (l.length : Int)) rfl (by kernel_rfl) (by kernel_rfl) (by kernel_rfl) (fun _ _ _ h => h) (Or.inl ⟨by rfl, fun w hS => by obtain ⟨hS1, hS2⟩ := hS; go_simp⟩) hHeld ?_
  simp only [Act.put, List.setIfInBounds_toArray, List.set_cons_zero, List.set_cons_succ]
  refine wpAnyH_take (i := 2) (oi := ⟨some 40, Op.move (Operand.tmp 7), 71, _, _, none⟩) (v := .pointer (some ⟨p, 0, none⟩)) rfl (by kernel_rfl) (by kernel_rfl) (by kernel_rfl) (fun _ _ _ h => h) (Or.inl ⟨by rfl, fun w hS => by obtain ⟨hS1, hS2⟩ := hS; go_simp⟩) hHeld ?_
  simp only [Act.put, List.setIfInBounds_toArray, List.set_cons_zero, List.set_cons_succ]
  refine wpAnyH_take (i := 3) (oi := ⟨some 41, Op.nilCheck (Operand.tmp 40), 0, _, _, none⟩) (v := .pointer (some ⟨p, 0, none⟩)) rfl (by kernel_rfl) (by kernel_rfl) (by kernel_rfl) (fun _ _ _ h => h) (Or.inl ⟨by rfl, fun w hS => by obtain ⟨hS1, hS2⟩ := hS; go_simp⟩) hHeld ?_
  simp only [Act.put, List.setIfInBounds_toArray, List.set_cons_zero, List.set_cons_succ]
  refine wpAnyH_take (i := 4) (oi := ⟨some 42, Op.fieldAddr 73 (Operand.tmp 41) 1, 0, _, _, none⟩) (v := .pointer (some ⟨p, 1, none⟩)) rfl (by kernel_rfl) (by kernel_rfl) (by kernel_rfl) (fun _ _ _ h => h) (Or.inl ⟨by rfl, fun w hS => by obtain ⟨hS1, hS2⟩ := hS; go_simp⟩) hHeld ?_
  simp only [Act.put, List.setIfInBounds_toArray, List.set_cons_zero, List.set_cons_succ]
  refine wpAnyH_take (i := 5) (oi := ⟨some 43, Op.load 3 (Operand.tmp 42), 3, _, _, none⟩) (v := .int .i64 D.room) rfl (by kernel_rfl) (by kernel_rfl) (by kernel_rfl) (fun _ _ _ h => h) (Or.inl ⟨by rfl, fun w hS => by obtain ⟨hS1, hS2⟩ := hS; go_simp⟩) hHeld ?_
  simp only [Act.put, List.setIfInBounds_toArray, List.set_cons_zero, List.set_cons_succ]
  refine wpAnyH_take (i := 6) (oi := ⟨some 44, Op.move (Operand.tmp 7), 71, _, _, none⟩) (v := .pointer (some ⟨p, 0, none⟩)) rfl (by kernel_rfl) (by kernel_rfl) (by kernel_rfl) (fun _ _ _ h => h) (Or.inl ⟨by rfl, fun w hS => by obtain ⟨hS1, hS2⟩ := hS; go_simp⟩) hHeld ?_
  simp only [Act.put, List.setIfInBounds_toArray, List.set_cons_zero, List.set_cons_succ]
  refine wpAnyH_take (i := 7) (oi := ⟨some 45, Op.nilCheck (Operand.tmp 44), 0, _, _, none⟩) (v := .pointer (some ⟨p, 0, none⟩)) rfl (by kernel_rfl) (by kernel_rfl) (by kernel_rfl) (fun _ _ _ h => h) (Or.inl ⟨by rfl, fun w hS => by obtain ⟨hS1, hS2⟩ := hS; go_simp⟩) hHeld ?_
  simp only [Act.put, List.setIfInBounds_toArray, List.set_cons_zero, List.set_cons_succ]
  refine wpAnyH_take (i := 8) (oi := ⟨some 46, Op.fieldAddr 73 (Operand.tmp 45) 2, 0, _, _, none⟩) (v := .pointer (some ⟨p, 2, none⟩)) rfl (by kernel_rfl) (by kernel_rfl) (by kernel_rfl) (fun _ _ _ h => h) (Or.inl ⟨by rfl, fun w hS => by obtain ⟨hS1, hS2⟩ := hS; go_simp⟩) hHeld ?_
  simp only [Act.put, List.setIfInBounds_toArray, List.set_cons_zero, List.set_cons_succ]
  refine wpAnyH_take (i := 9) (oi := ⟨some 47, Op.load 3 (Operand.tmp 46), 3, _, _, none⟩) (v := .int .i64 D.used) rfl (by kernel_rfl) (by kernel_rfl) (by kernel_rfl) (fun _ _ _ h => h) (Or.inl ⟨by rfl, fun w hS => by obtain ⟨hS1, hS2⟩ := hS; go_simp⟩) hHeld ?_
  simp only [Act.put, List.setIfInBounds_toArray, List.set_cons_zero, List.set_cons_succ]
  refine wpAnyH_take (i := 10) (oi := ⟨some 48, Op.binOp BinOp.sub 3 (Operand.tmp 43) (Operand.tmp 47) 3, 3, _, _, none⟩) (v := .int .i64 (D.room - D.used)) rfl (by kernel_rfl) (by kernel_rfl) (by kernel_rfl) (fun _ _ _ h => h) (Or.inl ⟨by rfl, fun w hS => by obtain ⟨hS1, hS2⟩ := hS; go_simp⟩) hHeld ?_
  simp only [Act.put, List.setIfInBounds_toArray, List.set_cons_zero, List.set_cons_succ]
  refine wpAnyH_take (i := 11) (oi := ⟨some 49, Op.binOp BinOp.gtr 3 (Operand.tmp 39) (Operand.tmp 48) 3, 4, _, _, none⟩) (v := .bool false) rfl (by kernel_rfl) (by kernel_rfl) (by kernel_rfl) (fun _ _ _ h => h) (Or.inl ⟨by rfl, fun w hS => by obtain ⟨hS1, hS2⟩ := hS; go_simp⟩) hHeld ?_
  simp only [Act.put, List.setIfInBounds_toArray, List.set_cons_zero, List.set_cons_succ]
  refine wpAnyH_done (by kernel_rfl) ?_ _
  refine hK11 _ _ ?_
  refine wp_cond_false rfl ?_
  refine wp_skip ?_
  refine hK10 _ _ ?_
  refine wp_seq_k fun K12 hK12 => ?_
  refine wp_seq_k fun K13 hK13 => ?_
  have HD2 := Keep.mk (HD1.out.grown (Grown.refl w1 (fun _ => False)).drew fun _ _ h => h)
  have B2 : Keep (Below wz.heap.size wz w1.drew) := ⟨B1.out.drew⟩
  clear c0 hS0 hwr hle hlt HD1 B1
  generalize w1.drew = w2 at *
  refine wp_region_list (WL.out ?_)
  refine WL.val (by kernel_rfl) (.bool false) (by go_simp) ?_
  simp only [Act.put, List.setIfInBounds_toArray, List.set_cons_zero, List.set_cons_succ]
  refine WL.val (by kernel_rfl) (.bool true) (by go_simp) ?_
  simp only [Act.put, List.setIfInBounds_toArray, List.set_cons_zero, List.set_cons_succ]
  refine WL.nil ?_
  refine hK13 _ _ ?_
  refine wp_cond_true rfl ?_
  refine wp_seq_k fun K14 hK14 => ?_
  refine wp_region_list (WL.out ?_)
  refine WL.bs (by kernel_rfl) 44 0 _ rfl #[] (by simp) _ _ (bsFE w2) ?_
  have HN3 := Keep.mk (ownF_empty w2)
  have hbx := below_new w2 (.cells #[] 70)
  have HD3 := Keep.mk (HD2.out.below hbx)
  have B3 : Keep (Below wz.heap.size wz (w2.alloc (.cells #[] 70))) := ⟨B2.out.trans (hbx.mono B2.out.size)⟩
  clear hbx HD2
  generalize w2.alloc (.cells #[] 70) = w3 at *
  obtain ⟨g3, hg3⟩ : ∃ g, Keep (g = w2.heap.size) := ⟨_, ⟨rfl⟩⟩
  rw [← hg3.out] at HN3 ⊢
  have hB3 : Keep (wz.heap.size ≤ g3) := ⟨by rw [hg3.out]; exact B2.out.size⟩
  have c0 := HD3.out.blk.c 0 (by rfl : (stA (.slice va cs.length vc) D)[0]? = some (.slice va cs.length vc))
  have hil : Keep (i ≤ cs.length) := ⟨by have h := fnd_le n D.fs 0; rw [HF.out] at h; have := HD3.out.fcs.len; simp at h; omega⟩
  obtain ⟨vs1, hs1, hs2⟩ := slF_hi HD3.out.own i hil.out
  have HS1 := Keep.mk (hs1 w3)
  have HS2 := Keep.mk (hs2 w3 HD3.out.own)
  clear hs1 hs2
  simp only [Act.put, List.setIfInBounds_toArray, List.set_cons_zero, List.set_cons_succ]
  refine WL.val (by kernel_rfl) (.pointer (some ⟨p, 0, none⟩)) (by go_simp) ?_
  simp only [Act.put, List.setIfInBounds_toArray, List.set_cons_zero, List.set_cons_succ]
  refine WL.val (by kernel_rfl) (.pointer (some ⟨p, 0, none⟩)) (by go_simp) ?_
  simp only [Act.put, List.setIfInBounds_toArray, List.set_cons_zero, List.set_cons_succ]
  refine WL.val (by kernel_rfl) (.pointer (some ⟨p, 0, none⟩)) (by go_simp) ?_
  simp only [Act.put, List.setIfInBounds_toArray, List.set_cons_zero, List.set_cons_succ]
  refine WL.val (by kernel_rfl) (.slice va cs.length vc) (by go_simp) ?_
  simp only [Act.put, List.setIfInBounds_toArray, List.set_cons_zero, List.set_cons_succ]
  refine WL.val (by kernel_rfl) (.int .i64 (i : Int)) (by go_simp) ?_
  simp only [Act.put, List.setIfInBounds_toArray, List.set_cons_zero, List.set_cons_succ]
  refine WL.slHi (by kernel_rfl) (.tmp 56) (.tmp 57) rfl (.slice va cs.length vc) (.int .i64 (i : Int)) vs1 rfl rfl HS1.out ?_
  simp only [Act.put, List.setIfInBounds_toArray, List.set_cons_zero, List.set_cons_succ]
  refine WL.appS (by kernel_rfl) (.tmp 52) (.tmp 58) rfl (.slice (some ⟨g3, 0, none⟩) 0 0) vs1 [] (cs.take i) (fun x hx => HD3.out.fcs.sl x (List.mem_of_mem_take hx)) rfl rfl HN3.out HS2.out (by simp; have := HL.out; omega) fun v4 w4 ho hg hm => ?_
  have HO4 := Keep.mk ho
  have N4 : Keep (NewF wz.heap.size v4) := ⟨NewF.moved (NewF.at hB3.out) B3.out.size hm⟩
  have B4 : Keep (Below wz.heap.size wz w4) := ⟨newF_below (NewF.at hB3.out) B3.out hg⟩
  have HD4 : Keep (DskAt w4 p (.slice va cs.length vc) cs D) := ⟨HD.out.below B4.out⟩
  clear ho hg hm HD3 HS1 HS2 c0
  obtain ⟨a4, k4, e4⟩ := HO4.out.sl
  subst e4
  obtain ⟨n4, hn4⟩ : ∃ q, Keep (q = (([] : List FC) ++ cs.take i).length) := ⟨_, ⟨rfl⟩⟩
  rw [← hn4.out] at HO4 N4 ⊢
  simp only [Act.put, List.setIfInBounds_toArray, List.set_cons_zero, List.set_cons_succ]
  refine WL.val (by kernel_rfl) (.slice a4 n4 k4) (by go_simp) ?_
  simp only [Act.put, List.setIfInBounds_toArray, List.set_cons_zero, List.set_cons_succ]
  refine WL.nil ?_
  refine hK14 _ _ ?_
  refine wp_seq_k fun K15 hK15 => ?_
  refine wp_region_list (WL.out ?_)
  refine WL.val (by kernel_rfl) (.slice a4 n4 k4) (by go_simp) ?_
  simp only [Act.put, List.setIfInBounds_toArray, List.set_cons_zero, List.set_cons_succ]
  refine WL.val (by kernel_rfl) (.string n) (by go_simp) ?_
  simp only [Act.put, List.setIfInBounds_toArray, List.set_cons_zero, List.set_cons_succ]
  refine WL.bld (by kernel_rfl) 70 _ rfl [(0, .string n)] (by simp [Act.eval]) _ (f_built n) ?_
  simp only [Act.put, List.setIfInBounds_toArray, List.set_cons_zero, List.set_cons_succ]
  refine WL.bs (by kernel_rfl) 44 1 _ rfl #[(0, .agg (fA (⟨n, .slice none 0 0, 0⟩ : FC)))] (by simp [Act.eval]) _ _ (bsF n none 0 0 0 w4) ?_
  have HB5 := Keep.mk (Blk.new w4 70 (fA (⟨n, .slice none 0 0, 0⟩ : FC)))
  have hbx := below_new w4 (.cells (fA (⟨n, .slice none 0 0, 0⟩ : FC)) 70)
  have HO5 := Keep.mk (HO4.out.below hbx)
  have B5 : Keep (Below wz.heap.size wz (w4.alloc (.cells (fA (⟨n, .slice none 0 0, 0⟩ : FC)) 70))) := ⟨B4.out.trans (hbx.mono B4.out.size)⟩
  clear hbx HO4
  generalize w4.alloc (.cells (fA (⟨n, .slice none 0 0, 0⟩ : FC)) 70) = w5 at *
  obtain ⟨g5, hg5⟩ : ∃ g, Keep (g = w4.heap.size) := ⟨_, ⟨rfl⟩⟩
  rw [← hg5.out] at HB5 ⊢
  simp only [Act.put, List.setIfInBounds_toArray, List.set_cons_zero, List.set_cons_succ]
  refine WL.appS (by kernel_rfl) (.tmp 60) (.tmp 63) rfl (.slice a4 n4 k4) (.slice (some ⟨g5, 0, none⟩) 1 1) ([] ++ cs.take i) [(⟨n, .slice none 0 0, 0⟩ : FC)] (fun x hx => by simp at hx; subst hx; exact ⟨none, 0, 0, rfl⟩) rfl rfl HO5.out (srcF_one HB5.out) (by simp; have := HL.out; omega) fun v6 w6 ho hg hm => ?_
  have HO6 := Keep.mk ho
  have N6 : Keep (NewF wz.heap.size v6) := ⟨NewF.moved N4.out B5.out.size hm⟩
  have B6 : Keep (Below wz.heap.size wz w6) := ⟨newF_below N4.out B5.out hg⟩
  have HD6 : Keep (DskAt w6 p (.slice va cs.length vc) cs D) := ⟨HD.out.below B6.out⟩
  clear ho hg hm HD4 HB5
  obtain ⟨a6, k6, e6⟩ := HO6.out.sl
  subst e6
  obtain ⟨n6, hn6⟩ : ∃ q, Keep (q = ([] ++ cs.take i ++ [(⟨n, .slice none 0 0, 0⟩ : FC)]).length) := ⟨_, ⟨rfl⟩⟩
  rw [← hn6.out] at HO6 N6 ⊢
  have c0 := HD6.out.blk.c 0 (by rfl : (stA (.slice va cs.length vc) D)[0]? = some (.slice va cs.length vc))
  obtain ⟨vs2, hs1, hs2⟩ := slF_lo HD6.out.own i hil.out
  have HS1 := Keep.mk (hs1 w6)
  have HS2 := Keep.mk (hs2 w6 HD6.out.own)
  clear hs1 hs2
  simp only [Act.put, List.setIfInBounds_toArray, List.set_cons_zero, List.set_cons_succ]
  refine WL.val (by kernel_rfl) (.slice a6 n6 k6) (by go_simp) ?_
  simp only [Act.put, List.setIfInBounds_toArray, List.set_cons_zero, List.set_cons_succ]
  refine WL.nil ?_
  refine hK15 _ _ ?_
  refine wp_region_list (WL.out ?_)
  refine WL.val (by kernel_rfl) (.pointer (some ⟨p, 0, none⟩)) (by go_simp) ?_
  simp only [Act.put, List.setIfInBounds_toArray, List.set_cons_zero, List.set_cons_succ]
  refine WL.val (by kernel_rfl) (.slice a6 n6 k6) (by go_simp) ?_
  simp only [Act.put, List.setIfInBounds_toArray, List.set_cons_zero, List.set_cons_succ]
  refine WL.val (by kernel_rfl) (.pointer (some ⟨p, 0, none⟩)) (by go_simp) ?_
  simp only [Act.put, List.setIfInBounds_toArray, List.set_cons_zero, List.set_cons_succ]
  refine WL.val (by kernel_rfl) (.pointer (some ⟨p, 0, none⟩)) (by go_simp) ?_
  simp only [Act.put, List.setIfInBounds_toArray, List.set_cons_zero, List.set_cons_succ]
  refine WL.val (by kernel_rfl) (.pointer (some ⟨p, 0, none⟩)) (by go_simp) ?_
  simp only [Act.put, List.setIfInBounds_toArray, List.set_cons_zero, List.set_cons_succ]
  refine WL.val (by kernel_rfl) (.slice va cs.length vc) (by go_simp) ?_
  simp only [Act.put, List.setIfInBounds_toArray, List.set_cons_zero, List.set_cons_succ]
  refine WL.val (by kernel_rfl) (.int .i64 (i : Int)) (by go_simp) ?_
  simp only [Act.put, List.setIfInBounds_toArray, List.set_cons_zero, List.set_cons_succ]
  refine WL.slLo (by kernel_rfl) (.tmp 70) (.tmp 71) rfl (.slice va cs.length vc) (.int .i64 (i : Int)) vs2 rfl rfl HS1.out ?_
  simp only [Act.put, List.setIfInBounds_toArray, List.set_cons_zero, List.set_cons_succ]
  refine WL.appS (by kernel_rfl) (.tmp 66) (.tmp 72) rfl (.slice a6 n6 k6) vs2 ([] ++ cs.take i ++ [(⟨n, .slice none 0 0, 0⟩ : FC)]) (cs.drop i) (fun x hx => HD6.out.fcs.sl x (List.mem_of_mem_drop hx)) rfl rfl HO6.out HS2.out (by simp; have := HL.out; omega) fun v7 w7 ho hg hm => ?_
  have HO7 : Keep (OwnF w7 v7 (cs.take i ++ [(⟨n, .slice none 0 0, 0⟩ : FC)] ++ cs.drop i)) := ⟨by rw [List.nil_append] at ho; exact ho⟩
  have N7 : Keep (NewF wz.heap.size v7) := ⟨NewF.moved N6.out B6.out.size hm⟩
  have B7 : Keep (Below wz.heap.size wz w7) := ⟨newF_below N6.out B6.out hg⟩
  have HD7 : Keep (DskAt w7 p (.slice va cs.length vc) cs D) := ⟨HD.out.below B7.out⟩
  clear ho hg hm HD6 HS1 HS2 c0
  obtain ⟨csi, hcsi⟩ : ∃ q, Keep (q = (cs.take i ++ [(⟨n, .slice none 0 0, 0⟩ : FC)] ++ cs.drop i)) := ⟨_, ⟨rfl⟩⟩
  rw [← hcsi.out] at HO7
  obtain ⟨a7, k7, e7⟩ := HO7.out.sl
  subst e7
  obtain ⟨g7, e7, hr7⟩ := HO7.out.at (t := i) (c := (⟨n, .slice none 0 0, 0⟩ : FC)) (by rw [hcsi.out, ins_get _ _ _ _ hil.out, if_neg (Nat.lt_irrefl i), if_pos rfl])
  subst e7
  clear hr7
  have f_o := HD7.out.blk.frozen 0
  have c0 := HD7.out.blk.c 0 (by rfl : (stA (.slice va cs.length vc) D)[0]? = some (.slice va cs.length vc))
  simp only [Act.put, List.setIfInBounds_toArray, List.set_cons_zero, List.set_cons_succ]
  refine WL.val (by kernel_rfl) (.pointer (some ⟨p, 0, none⟩)) (by go_simp) ?_
  simp only [Act.put, List.setIfInBounds_toArray, List.set_cons_zero, List.set_cons_succ]
  refine WL.val (by kernel_rfl) (.pointer (some ⟨p, 0, none⟩)) (by go_simp) ?_
  simp only [Act.put, List.setIfInBounds_toArray, List.set_cons_zero, List.set_cons_succ]
  refine WL.cell (by kernel_rfl) (w7.setCell ⟨p, 0, none⟩ (.slice (some ⟨g7, 0, none⟩) csi.length k7)) (by go_simp) ?_
  clear f_o c0
  have HD8 : Keep (DskAt (w7.setCell ⟨p, 0, none⟩ (.slice (some ⟨g7, 0, none⟩) csi.length k7)) p (.slice (some ⟨g7, 0, none⟩) csi.length k7) csi { D with fs := D.fs.take i ++ [⟨n, [], 0⟩] ++ D.fs.drop i }) := ⟨dsk_ins HD7.out HO7.out (by have := HDp.out; intro e; have e : g7 = p := Option.some.inj e; have := N7.out g7 rfl; omega) hcsi.out hil.out⟩
  have G8 : Keep (Grown wz (w7.setCell ⟨p, 0, none⟩ (.slice (some ⟨g7, 0, none⟩) csi.length k7)) fun k => k = p) := ⟨(Grown.below B7.out).trans (Grown.setCell w7 p 0 _ fun _ => rfl)⟩
  clear HD7 HO7
  generalize w7.setCell ⟨p, 0, none⟩ (.slice (some ⟨g7, 0, none⟩) csi.length k7) = w8 at *
  have HR8 := Keep.mk (HR.out.grown G8.out fun b hb _ => HRp.out b hb)
  obtain ⟨g_, hg_, hr8⟩ := HD8.out.own.at (t := i) (c := (⟨n, .slice none 0 0, 0⟩ : FC)) (by rw [hcsi.out, ins_get _ _ _ _ hil.out, if_neg (Nat.lt_irrefl i), if_pos rfl])
  obtain rfl : g7 = g_ := by injection hg_ with h; injection h
  have HR1 : Keep (w8.cell? ⟨g7, i * 3 + 1, none⟩ = some (.slice none 0 0)) := ⟨hr8 1 _ rfl⟩
  clear hr8 hg_
  have hgp : Keep (g7 ≠ p ∧ wz.heap.size ≤ g7) := ⟨by have := HDp.out; have := N7.out g7 rfl; omega, N7.out g7 rfl⟩
  have hcl : Keep (csi.length = cs.length + 1) := ⟨by rw [hcsi.out]; simp; have := hil.out; omega⟩
  have hilc : (i : Int) < (csi.length : Int) := by have := hcl.out; have := hil.out; omega
  simp only [Act.put]
  refine WL.nil ?_
  refine hK12 _ _ ?_
  refine wp_seq_k fun K16 hK16 => ?_
  have hS0 : Keep (w8.drew.cell? ⟨p, 0, none⟩ = some (.slice (some ⟨g7, 0, none⟩) csi.length k7)) := ⟨HD8.out.blk.drew.c 0 rfl⟩
  refine wp_region_held_drew (S := fun wx => wx.cell? ⟨p, 0, none⟩ = some (.slice (some ⟨g7, 0, none⟩) csi.length k7)) (by kernel_rfl) (hS0.out) (fun hHeld => ?_)
  refine wpAnyH_take (i := 0) (oi := ⟨some 76, Op.move (Operand.tmp 7), 71, _, _, none⟩) (v := .pointer (some ⟨p, 0, none⟩)) rfl (by kernel_rfl) (by kernel_rfl) (by kernel_rfl) (fun _ _ _ h => h) (Or.inl ⟨by rfl, fun w hS => by go_simp⟩) hHeld ?_
  simp only [Act.put, List.setIfInBounds_toArray, List.set_cons_zero, List.set_cons_succ]
  refine wpAnyH_take (i := 1) (oi := ⟨some 77, Op.nilCheck (Operand.tmp 76), 0, _, _, none⟩) (v := .pointer (some ⟨p, 0, none⟩)) rfl (by kernel_rfl) (by kernel_rfl) (by kernel_rfl) (fun _ _ _ h => h) (Or.inl ⟨by rfl, fun w hS => by go_simp⟩) hHeld ?_
  simp only [Act.put, List.setIfInBounds_toArray, List.set_cons_zero, List.set_cons_succ]
  refine wpAnyH_take (i := 2) (oi := ⟨some 78, Op.fieldAddr 73 (Operand.tmp 77) 0, 0, _, _, none⟩) (v := .pointer (some ⟨p, 0, none⟩)) rfl (by kernel_rfl) (by kernel_rfl) (by kernel_rfl) (fun _ _ _ h => h) (Or.inl ⟨by rfl, fun w hS => by go_simp⟩) hHeld ?_
  simp only [Act.put, List.setIfInBounds_toArray, List.set_cons_zero, List.set_cons_succ]
  refine wpAnyH_take (i := 3) (oi := ⟨some 79, Op.load 44 (Operand.tmp 78), 44, _, _, none⟩) (v := .slice (some ⟨g7, 0, none⟩) csi.length k7) rfl (by kernel_rfl) (by kernel_rfl) (by kernel_rfl) (fun _ _ _ h => h) (Or.inl ⟨by rfl, fun w hS => by go_simp⟩) hHeld ?_
  simp only [Act.put, List.setIfInBounds_toArray, List.set_cons_zero, List.set_cons_succ]
  refine wpAnyH_take (i := 4) (oi := ⟨some 80, Op.move (Operand.tmp 8), 3, _, _, none⟩) (v := .int .i64 (i : Int)) rfl (by kernel_rfl) (by kernel_rfl) (by kernel_rfl) (fun _ _ _ h => h) (Or.inl ⟨by rfl, fun w hS => by go_simp⟩) hHeld ?_
  simp only [Act.put, List.setIfInBounds_toArray, List.set_cons_zero, List.set_cons_succ]
  refine wpAnyH_take (i := 5) (oi := ⟨some 81, Op.move (Operand.tmp 7), 71, _, _, none⟩) (v := .pointer (some ⟨p, 0, none⟩)) rfl (by kernel_rfl) (by kernel_rfl) (by kernel_rfl) (fun _ _ _ h => h) (Or.inl ⟨by rfl, fun w hS => by go_simp⟩) hHeld ?_
  simp only [Act.put, List.setIfInBounds_toArray, List.set_cons_zero, List.set_cons_succ]
  refine wpAnyH_take (i := 6) (oi := ⟨some 82, Op.nilCheck (Operand.tmp 81), 0, _, _, none⟩) (v := .pointer (some ⟨p, 0, none⟩)) rfl (by kernel_rfl) (by kernel_rfl) (by kernel_rfl) (fun _ _ _ h => h) (Or.inl ⟨by rfl, fun w hS => by go_simp⟩) hHeld ?_
  simp only [Act.put, List.setIfInBounds_toArray, List.set_cons_zero, List.set_cons_succ]
  refine wpAnyH_take (i := 7) (oi := ⟨some 83, Op.fieldAddr 73 (Operand.tmp 82) 0, 0, _, _, none⟩) (v := .pointer (some ⟨p, 0, none⟩)) rfl (by kernel_rfl) (by kernel_rfl) (by kernel_rfl) (fun _ _ _ h => h) (Or.inl ⟨by rfl, fun w hS => by go_simp⟩) hHeld ?_
  simp only [Act.put, List.setIfInBounds_toArray, List.set_cons_zero, List.set_cons_succ]
  refine wpAnyH_take (i := 8) (oi := ⟨some 84, Op.load 44 (Operand.tmp 83), 44, _, _, none⟩) (v := .slice (some ⟨g7, 0, none⟩) csi.length k7) rfl (by kernel_rfl) (by kernel_rfl) (by kernel_rfl) (fun _ _ _ h => h) (Or.inl ⟨by rfl, fun w hS => by go_simp⟩) hHeld ?_
  simp only [Act.put, List.setIfInBounds_toArray, List.set_cons_zero, List.set_cons_succ]
  refine wpAnyH_take (i := 9) (oi := ⟨some 85, Op.move (Operand.tmp 8), 3, _, _, none⟩) (v := .int .i64 (i : Int)) rfl (by kernel_rfl) (by kernel_rfl) (by kernel_rfl) (fun _ _ _ h => h) (Or.inl ⟨by rfl, fun w hS => by go_simp⟩) hHeld ?_
  simp only [Act.put, List.setIfInBounds_toArray, List.set_cons_zero, List.set_cons_succ]
  refine wpAnyH_take (i := 10) (oi := ⟨some 86, Op.indexAddr 44 (Operand.tmp 84) (Operand.tmp 85), 0, _, _, none⟩) (v := .pointer (some ⟨g7, i * 3, none⟩)) rfl (by kernel_rfl) (by kernel_rfl) (by kernel_rfl) (fun _ _ _ h => h) (Or.inl ⟨by rfl, fun w hS => by go_simp⟩) hHeld ?_
  simp only [Act.put, List.setIfInBounds_toArray, List.set_cons_zero, List.set_cons_succ]
  refine wpAnyH_take (i := 11) (oi := ⟨some 87, Op.fieldAddr 70 (Operand.tmp 86) 1, 0, _, _, none⟩) (v := .pointer (some ⟨g7, i * 3 + 1, none⟩)) rfl (by kernel_rfl) (by kernel_rfl) (by kernel_rfl) (fun _ _ _ h => h) (Or.inl ⟨by rfl, fun w hS => by go_simp⟩) hHeld ?_
  simp only [Act.put, List.setIfInBounds_toArray, List.set_cons_zero, List.set_cons_succ]
  refine wpAnyH_take (i := 13) (oi := ⟨some 89, Op.move (Operand.tmp 2), 37, _, _, none⟩) (v := .slice ba l.length bc) rfl (by kernel_rfl) (by kernel_rfl) (by kernel_rfl) (fun _ _ _ h => h) (Or.inl ⟨by rfl, fun w hS => by go_simp⟩) hHeld ?_
  simp only [Act.put, List.setIfInBounds_toArray, List.set_cons_zero, List.set_cons_succ]
  refine wpAnyH_ready (rs := [12]) (by kernel_rfl) (by simp) ?_
  refine AllReadyH.cons (o := ⟨some 88, Op.load 37 (Operand.tmp 87), 37, _, _, none⟩) rfl (fun K hK => ?_) AllReadyH.nil
  rw [if_pos (by rfl)]
  have cl : w8.drew.cell? ⟨g7, i * 3 + 1, none⟩ = some (.slice none 0 0) := HR1.out
  refine wp_val (.slice none 0 0) (by go_simp) ?_
  clear cl
  refine hK _ _ hS0.out fun hH1 => ?_
  clear hK
  simp only [Act.put, List.setIfInBounds_toArray, List.set_cons_zero, List.set_cons_succ]
  refine wpAnyH_ready (rs := [14]) (by kernel_rfl) (by simp) ?_
  refine AllReadyH.cons (o := ⟨some 90, Op.call { callee := Callee.builtin Builtin.append, args := #[Operand.tmp 88, Operand.tmp 89], argTypes := #[37, 37] }, 37, _, _, none⟩) rfl (fun K hK => ?_) AllReadyH.nil
  rw [if_pos (by rfl)]
  refine wp_app (.tmp 88) (.tmp 89) rfl (.slice none 0 0) (.slice ba l.length bc) [] l rfl rfl (own_nil _) (HR8.out.below (Below.refl _ _).drew) (by have := HU.out; simp; omega) fun v9 w9 hp => ?_
  have HA9 := Keep.mk hp
  have G9 : Keep (Below w8.heap.size w8 w9) := ⟨(Below.refl w8.heap.size w8).drew.trans (hp.grown.to_below (B := w8.heap.size) (fun k _ e => by cases e) (Nat.le_refl _))⟩
  clear hp
  obtain ⟨a9, n9, k9, e9⟩ := HA9.out.1.sl
  subst e9
  have hS9 : Keep (w9.cell? ⟨p, 0, none⟩ = some (.slice (some ⟨g7, 0, none⟩) csi.length k7)) := ⟨(HD8.out.blk.below G9.out HD8.out.blk.lt).c 0 rfl⟩
  refine hK _ _ hS9.out fun hH2 => ?_
  clear hK
  simp only [Act.put, List.setIfInBounds_toArray, List.set_cons_zero, List.set_cons_succ]
  refine wpAnyH_take (i := 15) (oi := ⟨some 91, Op.indexAddr 44 (Operand.tmp 79) (Operand.tmp 80), 0, _, _, none⟩) (v := .pointer (some ⟨g7, i * 3, none⟩)) rfl (by kernel_rfl) (by kernel_rfl) (by kernel_rfl) (fun _ _ _ h => h) (Or.inl ⟨by rfl, fun w hS => by go_simp⟩) hH2 ?_
  simp only [Act.put, List.setIfInBounds_toArray, List.set_cons_zero, List.set_cons_succ]
  refine wpAnyH_take (i := 16) (oi := ⟨some 92, Op.fieldAddr 70 (Operand.tmp 91) 1, 0, _, _, none⟩) (v := .pointer (some ⟨g7, i * 3 + 1, none⟩)) rfl (by kernel_rfl) (by kernel_rfl) (by kernel_rfl) (fun _ _ _ h => h) (Or.inl ⟨by rfl, fun w hS => by go_simp⟩) hH2 ?_
  simp only [Act.put, List.setIfInBounds_toArray, List.set_cons_zero, List.set_cons_succ]
  refine wpAnyH_ready (rs := [17]) (by kernel_rfl) (by simp) ?_
  refine AllReadyH.cons (o := ⟨none, Op.store 37 (Operand.tmp 92) (Operand.tmp 90), 0, _, _, none⟩) rfl (fun K hK => ?_) AllReadyH.nil
  rw [if_pos (by rfl)]
  have f_o : w9.frozen? ⟨g7, i * 3 + 1, none⟩ = false := ownF_frozen (HD8.out.own.below G9.out) _
  have cl : w9.cell? ⟨g7, i * 3 + 1, none⟩ = some (.slice none 0 0) := bcl G9.out ⟨cell_lt HR1.out, HR1.out⟩
  refine wp_cellS (w9.setCell ⟨g7, i * 3 + 1, none⟩ (.slice a9 n9 k9)) (by go_simp) ?_
  clear f_o cl
  refine hK _ _ ((Grown.setCell w9 g7 (i * 3 + 1) _ (S := fun k => k = g7) fun _ => rfl).cell hS9.out (fun e => hgp.out.1 e.symm)) fun hH3 => ?_
  clear hK
  simp only [Act.put, List.setIfInBounds_toArray, List.set_cons_zero, List.set_cons_succ]
  refine wpAnyH_done (by kernel_rfl) ?_ _
  refine hK16 _ _ ?_
  refine wp_seq_k fun K17 hK17 => ?_
  obtain ⟨w10, hw10⟩ : ∃ wx, Keep (wx = w9.setCell ⟨g7, i * 3 + 1, none⟩ (.slice a9 n9 k9)) := ⟨_, ⟨rfl⟩⟩
  rw [← hw10.out]
  have HD10 : Keep (DskAt w10 p (.slice (some ⟨g7, 0, none⟩) csi.length k7) (csi.set i (⟨n, .slice a9 n9 k9, 0⟩ : FC)) { D with fs := D.fs.take i ++ [⟨n, l, 0⟩] ++ D.fs.drop i }) := ⟨by rw [hw10.out]; exact dsk_put HD8.out HA9.out G9.out hcsi.out hil.out⟩
  have G10 : Keep (Grown wz w10 fun k => k = p) := ⟨by rw [hw10.out]; exact (G8.out.trans (Grown.below G9.out |>.mono (fun k _ h => h) (S := fun k => k = p))).next (Grown.setCell w9 g7 _ _ (S := fun k => k = g7) fun _ => rfl) fun k hk e => by have := hgp.out; omega⟩
  have N10 : Keep (∀ k, DskS p (.slice (some ⟨g7, 0, none⟩) csi.length k7) (csi.set i (⟨n, .slice a9 n9 k9, 0⟩ : FC)) k → DskS p (.slice va cs.length vc) cs k ∨ wz.heap.size ≤ k) := ⟨dsk_new (by have := N7.out g7 rfl; exact N7.out) hcsi.out hil.out (fun k hk => by have h := own_new (B := w8.heap.size) HA9.out (Nat.le_refl _) (fun j hj => by cases hj) k hk; have := G8.out.size; omega)⟩
  clear HD8 HA9 G9 G8 hw10 hS9 HR8 HR1 hS0
  have c2 := HD10.out.blk.c 2 (by rfl : (stA (.slice (some ⟨g7, 0, none⟩) csi.length k7) { D with fs := D.fs.take i ++ [⟨n, l, 0⟩] ++ D.fs.drop i })[2]? = some (.int .i64 D.used))
  have f_o := HD10.out.blk.frozen 2
  have hwu : IntKind.i64.wrap (D.used + (l.length : Int)) = D.used + (l.length : Int) := by rw [IntKind.wrap_i64]; have := HU.out; omega
  refine wp_region_list (WL.out ?_)
  refine WL.val (by kernel_rfl) (.pointer (some ⟨p, 0, none⟩)) (by go_simp) ?_
  simp only [Act.put, List.setIfInBounds_toArray, List.set_cons_zero, List.set_cons_succ]
  refine WL.val (by kernel_rfl) (.pointer (some ⟨p, 0, none⟩)) (by go_simp) ?_
  simp only [Act.put, List.setIfInBounds_toArray, List.set_cons_zero, List.set_cons_succ]
  refine WL.val (by kernel_rfl) (.pointer (some ⟨p, 2, none⟩)) (by go_simp) ?_
  simp only [Act.put, List.setIfInBounds_toArray, List.set_cons_zero, List.set_cons_succ]
  refine WL.val (by kernel_rfl) (.int .i64 D.used) (by go_simp) ?_
  simp only [Act.put, List.setIfInBounds_toArray, List.set_cons_zero, List.set_cons_succ]
  refine WL.val (by kernel_rfl) (.slice ba l.length bc) (by go_simp) ?_
  simp only [Act.put, List.setIfInBounds_toArray, List.set_cons_zero, List.set_cons_succ]
  refine WL.val (by kernel_rfl) (.int .i64 (l.length : Int)) (by go_simp) ?_
  simp only [Act.put, List.setIfInBounds_toArray, List.set_cons_zero, List.set_cons_succ]
  refine WL.val (by kernel_rfl) (.int .i64 (D.used + (l.length : Int))) (by go_simp) ?_
  simp only [Act.put, List.setIfInBounds_toArray, List.set_cons_zero, List.set_cons_succ]
  refine WL.val (by kernel_rfl) (.pointer (some ⟨p, 0, none⟩)) (by go_simp) ?_
  simp only [Act.put, List.setIfInBounds_toArray, List.set_cons_zero, List.set_cons_succ]
  refine WL.val (by kernel_rfl) (.pointer (some ⟨p, 2, none⟩)) (by go_simp) ?_
  simp only [Act.put, List.setIfInBounds_toArray, List.set_cons_zero, List.set_cons_succ]
  refine WL.cell (by kernel_rfl) (w10.setCell ⟨p, 2, none⟩ (.int .i64 (D.used + (l.length : Int)))) (by go_simp) ?_
  clear f_o c2
  have HD11 : Keep (DskAt (w10.setCell ⟨p, 2, none⟩ (.int .i64 (D.used + (l.length : Int)))) p (.slice (some ⟨g7, 0, none⟩) csi.length k7) (csi.set i (⟨n, .slice a9 n9 k9, 0⟩ : FC)) { D with fs := D.fs.take i ++ [⟨n, l, 0⟩] ++ D.fs.drop i, used := D.used + (l.length : Int) }) := ⟨HD10.out.put rfl rfl⟩
  have G11 : Keep (Grown wz (w10.setCell ⟨p, 2, none⟩ (.int .i64 (D.used + (l.length : Int)))) fun k => k = p) := ⟨G10.out.trans (Grown.setCell w10 p 2 _ fun _ => rfl)⟩
  clear HD10 G10
  generalize w10.setCell ⟨p, 2, none⟩ (.int .i64 (D.used + (l.length : Int))) = w11 at *
  simp only [Act.put]
  refine WL.nil ?_
  refine hK17 _ _ ?_
  refine wp_seq_k fun K18 hK18 => ?_
  refine wp_seq_k fun K19 hK19 => ?_
  refine wp_region_list (WL.out ?_)
  refine WL.val (by kernel_rfl) (.pointer (some ⟨p, 0, none⟩)) (by go_simp) ?_
  simp only [Act.put, List.setIfInBounds_toArray, List.set_cons_zero, List.set_cons_succ]
  have hac := act_any p _ _ _ w11 HD11.out HA.out ⟨HFu.out.1, HFu.out.2.1⟩
  rw [show decide (D.fuse = 0) = false from decide_eq_false HFu.out.2.2] at hac
  refine WL.callF (by kernel_rfl) 47 _ _ rfl Tryd.in47 #[ptr p] (by simp [Act.eval]) ?_
  refine (hac).mono ?_
  rintro e w12 ⟨rfl, h1, h2⟩
  refine ⟨_, rfl, ?_⟩
  have HD12 := Keep.mk h1
  have G12 : Keep (Grown wz w12 fun k => k = p) := ⟨G11.out.trans h2⟩
  clear h1 h2 hac
  simp only [Act.put, List.setIfInBounds_toArray, List.set_cons_zero, List.set_cons_succ]
  refine WL.nil ?_
  refine hK19 _ _ ?_
  refine wp_cond_false rfl ?_
  refine wp_skip ?_
  refine hK18 _ _ ?_
  refine wp_seq_k fun K20 hK20 => ?_
  refine wp_region_list (WL.out ?_)
  refine WL.val (by kernel_rfl) (.int .i64 0) (by go_simp) ?_
  simp only [Act.put, List.setIfInBounds_toArray, List.set_cons_zero, List.set_cons_succ]
  refine WL.nil ?_
  refine hK20 _ _ ?_
  refine wp_ret ?_
  go_ret
  exact ⟨rfl, _, _, HD12.out, G12.out, N10.out⟩
theorem ownF_off {w : World} {g n c : Nat} {l : List FC} (h : OwnF w (.slice (some ⟨g, 0, none⟩) n c) l) {a b : Nat} {v : Value} (hab : a ≠ b) : (w.setCell ⟨g, a, none⟩ v).cell? ⟨g, b, none⟩ = w.cell? ⟨g, b, none⟩ := by
  rcases h.form with ⟨e, _⟩ | ⟨g', cap, cur, e, hb, _⟩
  · cases e
  · injection e with e1 e2 e3
    injection e1 with e1
    injection e1 with e1
    subst e1
    rw [(hb.set a v).cell, hb.cell, Array.getElem?_setIfInBounds_ne hab]
theorem dsk_sync {w : World} {p g n7 k7 i : Nat} {cs : List FC} {D : DV} {x : FC} {f : PF} (h : DskAt w p (.slice (some ⟨g, 0, none⟩) n7 k7) cs D.act) (hx : cs[i]? = some x) (hf : D.fs[i]? = some f) : DskAt (w.drew.setCell ⟨g, i * 3 + 2, none⟩ (.int .i64 (f.bs.length : Int))) p (.slice (some ⟨g, 0, none⟩) n7 k7) (cs.set i { x with sf := (f.bs.length : Int) }) (D.act.sync i) := by
  have hg : Grown w (w.drew.setCell ⟨g, i * 3 + 2, none⟩ (.int .i64 (f.bs.length : Int))) fun k => k = g := (Grown.refl w _).drew.trans (Grown.setCell w.drew g _ _ fun _ => rfl)
  have ht : Typ w g 70 := h.own.typ rfl
  refine ⟨hg.blk h.blk fun e => ?_, OwnF.set (w := w.drew) h.own hx (by omega) rfl, ?_⟩
  · subst e; have := ht.one h.blk.typ; revert this; decide
  · exact h.fcs.sync hx hf fun y l ho => ho.grown hg fun k hk e => by subst e; have := (ho.typ hk).one ht; revert this; decide
theorem dskS_sync {p : Nat} {vf : Value} {cs : List FC} {i : Nat} {x : FC} {z : Int} (hx : cs[i]? = some x) {k : Nat} (h : DskS p vf (cs.set i { x with sf := z }) k) : DskS p vf cs k := by
  rcases h with h | h | ⟨j, y, hy, hk⟩
  · exact .inl h
  · exact .inr (.inl h)
  · by_cases e : i = j
    · subst e
      rw [List.getElem?_set_self (List.getElem?_eq_some_iff.1 hx).1] at hy
      injection hy with hy
      subst hy
      exact .inr (.inr ⟨i, x, hx, hk⟩)
    · rw [List.getElem?_set_ne e] at hy
      exact .inr (.inr ⟨j, y, hy, hk⟩)
set_option maxRecDepth 8000 in
set_option maxHeartbeats 2000000 in
theorem sync_is (d p i : Nat) (n : ByteArray) (vf : Value) (cs : List FC) (D : DV) (w : World) (hDk : Blk w d 75 #[ptr p]) (hD : DskAt w p vf cs D) (hO : D.out = false) (hF : fnd n D.fs 0 = (i, true)) (hL : cs.length ≤ 256) (hA : 0 ≤ D.acts ∧ D.acts ≤ 4611686018427387904) (hFu : -9223372036854775808 < D.fuse ∧ D.fuse ≤ 9223372036854775807 ∧ ¬ D.fuse = 0) :
    Calls Tryd.prog 43 #[ptr d, .string n] w fun e w' => e = .returned (.int .i64 0) ∧ ∃ cs', DskAt w' p vf cs' (D.act.sync i) ∧ (Grown w w' fun k => k = p ∨ vf.ownBlock = some k) ∧ ∀ k, DskS p vf cs' k → DskS p vf cs k := by
  obtain ⟨va, vc, rfl⟩ := hD.own.sl
  have HDk := Keep.mk hDk
  have HD := Keep.mk hD
  have HO := Keep.mk hO
  have HF := Keep.mk hF
  have HL := Keep.mk hL
  have HA := Keep.mk hA
  have HFu := Keep.mk hFu
  clear hDk hD hO hF hL hA hFu
  go_enter Tryd.func43, Tryd.ntmps43
  have cd := HDk.out.c 0 (by rfl : (#[ptr p] : Array Value)[0]? = some (ptr p))
  have c4 : w.cell? ⟨p, 4, none⟩ = some (.bool false) := by have h := HD.out.blk.c 4 (by rfl : (stA (.slice va cs.length vc) D)[4]? = some (.bool D.out)); rw [HO.out] at h; exact h
  refine wp_seq_k fun K1 hK1 => ?_
  refine wp_region_list (WL.out ?_)
  refine WL.val (by kernel_rfl) (.int .i64 0) (by go_simp) ?_
  simp only [Act.put, List.setIfInBounds_toArray, List.set_cons_zero, List.set_cons_succ]
  refine WL.nil ?_
  refine hK1 _ _ ?_
  refine wp_seq_k fun K2 hK2 => ?_
  refine wp_region_list (WL.out ?_)
  refine WL.val (by kernel_rfl) (.pointer (some ⟨d, 0, none⟩)) (by go_simp) ?_
  simp only [Act.put, List.setIfInBounds_toArray, List.set_cons_zero, List.set_cons_succ]
  refine WL.val (by kernel_rfl) (.pointer (some ⟨d, 0, none⟩)) (by go_simp) ?_
  simp only [Act.put, List.setIfInBounds_toArray, List.set_cons_zero, List.set_cons_succ]
  refine WL.val (by kernel_rfl) (.pointer (some ⟨d, 0, none⟩)) (by go_simp) ?_
  simp only [Act.put, List.setIfInBounds_toArray, List.set_cons_zero, List.set_cons_succ]
  refine WL.val (by kernel_rfl) (.pointer (some ⟨p, 0, none⟩)) (by go_simp) ?_
  simp only [Act.put, List.setIfInBounds_toArray, List.set_cons_zero, List.set_cons_succ]
  refine WL.val (by kernel_rfl) (.pointer (some ⟨p, 0, none⟩)) (by go_simp) ?_
  simp only [Act.put, List.setIfInBounds_toArray, List.set_cons_zero, List.set_cons_succ]
  refine WL.nil ?_
  refine hK2 _ _ ?_
  refine wp_seq_k fun K3 hK3 => ?_
  refine wp_seq_k fun K4 hK4 => ?_
  refine wp_region_list (WL.out ?_)
  refine WL.val (by kernel_rfl) (.pointer (some ⟨p, 0, none⟩)) (by go_simp) ?_
  simp only [Act.put, List.setIfInBounds_toArray, List.set_cons_zero, List.set_cons_succ]
  refine WL.val (by kernel_rfl) (.pointer (some ⟨p, 0, none⟩)) (by go_simp) ?_
  simp only [Act.put, List.setIfInBounds_toArray, List.set_cons_zero, List.set_cons_succ]
  refine WL.val (by kernel_rfl) (.pointer (some ⟨p, 4, none⟩)) (by go_simp) ?_
  simp only [Act.put, List.setIfInBounds_toArray, List.set_cons_zero, List.set_cons_succ]
  refine WL.val (by kernel_rfl) (.bool false) (by go_simp) ?_
  simp only [Act.put, List.setIfInBounds_toArray, List.set_cons_zero, List.set_cons_succ]
  refine WL.nil ?_
  refine hK4 _ _ ?_
  refine wp_cond_false rfl ?_
  refine wp_skip ?_
  refine hK3 _ _ ?_
  refine wp_seq_k fun K5 hK5 => ?_
  refine wp_region_list (WL.out ?_)
  refine WL.val (by kernel_rfl) (.pointer (some ⟨p, 0, none⟩)) (by go_simp) ?_
  simp only [Act.put, List.setIfInBounds_toArray, List.set_cons_zero, List.set_cons_succ]
  refine WL.val (by kernel_rfl) (.string n) (by go_simp) ?_
  simp only [Act.put, List.setIfInBounds_toArray, List.set_cons_zero, List.set_cons_succ]
  clear cd c4
  have hfd := find_any p n _ cs D w HD.out (by have := HL.out; omega)
  rw [HF.out] at hfd
  refine WL.callF (by kernel_rfl) 33 _ _ rfl Tryd.in33 #[ptr p, .string n] (by simp [Act.eval]) ?_
  refine (hfd).mono ?_
  rintro e w1 ⟨rfl, hb1⟩
  refine ⟨_, rfl, ?_⟩
  have HD1 := Keep.mk (HD.out.below hb1)
  have B1 := Keep.mk hb1
  clear hb1 hfd
  simp only [Act.put, List.setIfInBounds_toArray, List.set_cons_zero, List.set_cons_succ]
  refine WL.val (by kernel_rfl) (.tuple #[.int .i64 (i : Int), .bool true]) (by go_simp) ?_
  simp only [Act.put, List.setIfInBounds_toArray, List.set_cons_zero, List.set_cons_succ]
  refine WL.val (by kernel_rfl) (.int .i64 (i : Int)) (by go_simp) ?_
  simp only [Act.put, List.setIfInBounds_toArray, List.set_cons_zero, List.set_cons_succ]
  refine WL.val (by kernel_rfl) (.bool true) (by go_simp) ?_
  simp only [Act.put, List.setIfInBounds_toArray, List.set_cons_zero, List.set_cons_succ]
  refine WL.val (by kernel_rfl) (.int .i64 (i : Int)) (by go_simp) ?_
  simp only [Act.put, List.setIfInBounds_toArray, List.set_cons_zero, List.set_cons_succ]
  refine WL.val (by kernel_rfl) (.bool true) (by go_simp) ?_
  simp only [Act.put, List.setIfInBounds_toArray, List.set_cons_zero, List.set_cons_succ]
  refine WL.nil ?_
  refine hK5 _ _ ?_
  refine wp_seq_k fun K6 hK6 => ?_
  refine wp_seq_k fun K7 hK7 => ?_
  refine wp_region_list (WL.out ?_)
  refine WL.val (by kernel_rfl) (.bool true) (by go_simp) ?_
  simp only [Act.put, List.setIfInBounds_toArray, List.set_cons_zero, List.set_cons_succ]
  refine WL.val (by kernel_rfl) (.bool false) (by go_simp) ?_
  simp only [Act.put, List.setIfInBounds_toArray, List.set_cons_zero, List.set_cons_succ]
  refine WL.nil ?_
  refine hK7 _ _ ?_
  refine wp_cond_false rfl ?_
  refine wp_skip ?_
  refine hK6 _ _ ?_
  refine wp_seq_k fun K8 hK8 => ?_
  refine wp_seq_k fun K9 hK9 => ?_
  refine wp_region_list (WL.out ?_)
  refine WL.val (by kernel_rfl) (.pointer (some ⟨p, 0, none⟩)) (by go_simp) ?_
  simp only [Act.put, List.setIfInBounds_toArray, List.set_cons_zero, List.set_cons_succ]
  have hac := act_any p _ _ _ w1 HD1.out HA.out ⟨HFu.out.1, HFu.out.2.1⟩
  rw [show decide (D.fuse = 0) = false from decide_eq_false HFu.out.2.2] at hac
  refine WL.callF (by kernel_rfl) 47 _ _ rfl Tryd.in47 #[ptr p] (by simp [Act.eval]) ?_
  refine (hac).mono ?_
  rintro e w2 ⟨rfl, h1, h2⟩
  refine ⟨_, rfl, ?_⟩
  have HD2 := Keep.mk h1
  have G2 : Keep (Grown w w2 fun k => k = p) := ⟨(Grown.below B1.out).trans h2⟩
  clear h1 h2 hac HD1
  simp only [Act.put, List.setIfInBounds_toArray, List.set_cons_zero, List.set_cons_succ]
  refine WL.nil ?_
  refine hK9 _ _ ?_
  refine wp_cond_false rfl ?_
  refine wp_skip ?_
  refine hK8 _ _ ?_
  refine wp_seq_k fun K10 hK10 => ?_
  obtain ⟨f_, hf_⟩ : ∃ f, D.fs[i]? = some f := by obtain ⟨j, f, h1, h2⟩ := fnd_at n D.fs 0 (by rw [HF.out]); rw [HF.out] at h1; simp at h1; subst h1; exact ⟨f, h2⟩
  have hci : i < cs.length := by have h := HD2.out.fcs.len; have h2 := (List.getElem?_eq_some_iff.1 hf_).1; have e : D.act.fs = D.fs := rfl; rw [e] at h; omega
  obtain ⟨x, hx⟩ : ∃ x, cs[i]? = some x := ⟨cs[i], List.getElem?_eq_getElem hci⟩
  have HX := Keep.mk hx
  have HFI := Keep.mk hf_
  obtain ⟨g, ha, hrg⟩ := HD2.out.own.at hx
  subst ha
  have hec := HD2.out.fcs.each i x f_ hx hf_
  obtain ⟨ba, bc, hxb⟩ := row_form hec.2.2.row
  have hci' : (i : Int) < (cs.length : Int) := by omega
  have hS0 : Keep (w2.drew.cell? ⟨p, 0, none⟩ = some (.slice (some ⟨g, 0, none⟩) cs.length vc) ∧ w2.drew.cell? ⟨g, i * 3 + 1, none⟩ = some (.slice ba f_.bs.length bc)) := ⟨HD2.out.blk.drew.c 0 rfl, by have h := hrg 1 x.b rfl; rw [hxb] at h; exact h⟩
  have hgp : Keep (g ≠ p) := ⟨fun e => HD2.out.own.ne HD2.out.blk (by decide) (by rw [e]; rfl)⟩
  have cl : Keep (w2.drew.cell? ⟨g, i * 3 + 2, none⟩ = some (.int .i64 x.sf)) := ⟨hrg 2 _ rfl⟩
  clear hrg hec hx hf_ hxb hci
  refine wp_region_held_drew (S := fun wx => wx.cell? ⟨p, 0, none⟩ = some (.slice (some ⟨g, 0, none⟩) cs.length vc) ∧ wx.cell? ⟨g, i * 3 + 1, none⟩ = some (.slice ba f_.bs.length bc)) (by kernel_rfl) (hS0.out) (fun hHeld => ?_)
  refine wpAnyH_take (i := 0) (oi := ⟨some 26, Op.move (Operand.tmp 5), 71, _, _, none⟩) (v := .pointer (some ⟨p, 0, none⟩)) rfl (by kernel_rfl) (by kernel_rfl) (by kernel_rfl) (fun _ _ _ h => h) (Or.inl ⟨by rfl, fun w hS => by obtain ⟨hS1, hS2⟩ := hS; go_simp⟩) hHeld ?_
  simp only [Act.put, List.setIfInBounds_toArray, List.set_cons_zero, List.set_cons_succ]
  refine wpAnyH_take (i := 1) (oi := ⟨some 27, Op.nilCheck (Operand.tmp 26), 0, _, _, none⟩) (v := .pointer (some ⟨p, 0, none⟩)) rfl (by kernel_rfl) (by kernel_rfl) (by kernel_rfl) (fun _ _ _ h => h) (Or.inl ⟨by rfl, fun w hS => by obtain ⟨hS1, hS2⟩ := hS; go_simp⟩) hHeld ?_
  simp only [Act.put, List.setIfInBounds_toArray, List.set_cons_zero, List.set_cons_succ]
  refine wpAnyH_take (i := 2) (oi := ⟨some 28, Op.fieldAddr 73 (Operand.tmp 27) 0, 0, _, _, none⟩) (v := .pointer (some ⟨p, 0, none⟩)) rfl (by kernel_rfl) (by kernel_rfl) (by kernel_rfl) (fun _ _ _ h => h) (Or.inl ⟨by rfl, fun w hS => by obtain ⟨hS1, hS2⟩ := hS; go_simp⟩) hHeld ?_
  simp only [Act.put, List.setIfInBounds_toArray, List.set_cons_zero, List.set_cons_succ]
  refine wpAnyH_take (i := 3) (oi := ⟨some 29, Op.load 44 (Operand.tmp 28), 44, _, _, none⟩) (v := .slice (some ⟨g, 0, none⟩) cs.length vc) rfl (by kernel_rfl) (by kernel_rfl) (by kernel_rfl) (fun _ _ _ h => h) (Or.inl ⟨by rfl, fun w hS => by obtain ⟨hS1, hS2⟩ := hS; go_simp⟩) hHeld ?_
  simp only [Act.put, List.setIfInBounds_toArray, List.set_cons_zero, List.set_cons_succ]
  refine wpAnyH_take (i := 4) (oi := ⟨some 30, Op.move (Operand.tmp 6), 3, _, _, none⟩) (v := .int .i64 (i : Int)) rfl (by kernel_rfl) (by kernel_rfl) (by kernel_rfl) (fun _ _ _ h => h) (Or.inl ⟨by rfl, fun w hS => by obtain ⟨hS1, hS2⟩ := hS; go_simp⟩) hHeld ?_
  simp only [Act.put, List.setIfInBounds_toArray, List.set_cons_zero, List.set_cons_succ]
  refine wpAnyH_take (i := 5) (oi := ⟨some 31, Op.move (Operand.tmp 5), 71, _, _, none⟩) (v := .pointer (some ⟨p, 0, none⟩)) rfl (by kernel_rfl) (by kernel_rfl) (by kernel_rfl) (fun _ _ _ h => h) (Or.inl ⟨by rfl, fun w hS => by obtain ⟨hS1, hS2⟩ := hS; go_simp⟩) hHeld ?_
  simp only [Act.put, List.setIfInBounds_toArray, List.set_cons_zero, List.set_cons_succ]
  refine wpAnyH_take (i := 6) (oi := ⟨some 32, Op.nilCheck (Operand.tmp 31), 0, _, _, none⟩) (v := .pointer (some ⟨p, 0, none⟩)) rfl (by kernel_rfl) (by kernel_rfl) (by kernel_rfl) (fun _ _ _ h => h) (Or.inl ⟨by rfl, fun w hS => by obtain ⟨hS1, hS2⟩ := hS; go_simp⟩) hHeld ?_
  simp only [Act.put, List.setIfInBounds_toArray, List.set_cons_zero, List.set_cons_succ]
  refine wpAnyH_take (i := 7) (oi := ⟨some 33, Op.fieldAddr 73 (Operand.tmp 32) 0, 0, _, _, none⟩) (v := .pointer (some ⟨p, 0, none⟩)) rfl (by kernel_rfl) (by kernel_rfl) (by kernel_rfl) (fun _ _ _ h => h) (Or.inl ⟨by rfl, fun w hS => by obtain ⟨hS1, hS2⟩ := hS; go_simp⟩) hHeld ?_
  simp only [Act.put, List.setIfInBounds_toArray, List.set_cons_zero, List.set_cons_succ]
  refine wpAnyH_take (i := 8) (oi := ⟨some 34, Op.load 44 (Operand.tmp 33), 44, _, _, none⟩) (v := .slice (some ⟨g, 0, none⟩) cs.length vc) rfl (by kernel_rfl) (by kernel_rfl) (by kernel_rfl) (fun _ _ _ h => h) (Or.inl ⟨by rfl, fun w hS => by obtain ⟨hS1, hS2⟩ := hS; go_simp⟩) hHeld ?_
  simp only [Act.put, List.setIfInBounds_toArray, List.set_cons_zero, List.set_cons_succ]
  refine wpAnyH_take (i := 9) (oi := ⟨some 35, Op.move (Operand.tmp 6), 3, _, _, none⟩) (v := .int .i64 (i : Int)) rfl (by kernel_rfl) (by kernel_rfl) (by kernel_rfl) (fun _ _ _ h => h) (Or.inl ⟨by rfl, fun w hS => by obtain ⟨hS1, hS2⟩ := hS; go_simp⟩) hHeld ?_
  simp only [Act.put, List.setIfInBounds_toArray, List.set_cons_zero, List.set_cons_succ]
  refine wpAnyH_take (i := 10) (oi := ⟨some 36, Op.indexAddr 44 (Operand.tmp 34) (Operand.tmp 35), 0, _, _, none⟩) (v := .pointer (some ⟨g, i * 3, none⟩)) rfl (by kernel_rfl) (by kernel_rfl) (by kernel_rfl) (fun _ _ _ h => h) (Or.inl ⟨by rfl, fun w hS => by obtain ⟨hS1, hS2⟩ := hS; go_simp⟩) hHeld ?_
  simp only [Act.put, List.setIfInBounds_toArray, List.set_cons_zero, List.set_cons_succ]
  refine wpAnyH_take (i := 11) (oi := ⟨some 37, Op.fieldAddr 70 (Operand.tmp 36) 1, 0, _, _, none⟩) (v := .pointer (some ⟨g, i * 3 + 1, none⟩)) rfl (by kernel_rfl) (by kernel_rfl) (by kernel_rfl) (fun _ _ _ h => h) (Or.inl ⟨by rfl, fun w hS => by obtain ⟨hS1, hS2⟩ := hS; go_simp⟩) hHeld ?_
  simp only [Act.put, List.setIfInBounds_toArray, List.set_cons_zero, List.set_cons_succ]
  refine wpAnyH_take (i := 12) (oi := ⟨some 38, Op.load 37 (Operand.tmp 37), 37, _, _, none⟩) (v := .slice ba f_.bs.length bc) rfl (by kernel_rfl) (by kernel_rfl) (by kernel_rfl) (fun _ _ _ h => h) (Or.inl ⟨by rfl, fun w hS => by obtain ⟨hS1, hS2⟩ := hS; go_simp⟩) hHeld ?_
  simp only [Act.put, List.setIfInBounds_toArray, List.set_cons_zero, List.set_cons_succ]
  refine wpAnyH_take (i := 13) (oi := ⟨some 39, Op.call { callee := Callee.builtin Builtin.len, args := #[Operand.tmp 38], argTypes := #[37] }, 3, _, _, none⟩) (v := .int .i64 (f_.bs.length : Int)) rfl (by kernel_rfl) (by kernel_rfl) (by kernel_rfl) (fun _ _ _ h => h) (Or.inl ⟨by rfl, fun w hS => by obtain ⟨hS1, hS2⟩ := hS; go_simp⟩) hHeld ?_
  simp only [Act.put, List.setIfInBounds_toArray, List.set_cons_zero, List.set_cons_succ]
  refine wpAnyH_take (i := 14) (oi := ⟨some 40, Op.indexAddr 44 (Operand.tmp 29) (Operand.tmp 30), 0, _, _, none⟩) (v := .pointer (some ⟨g, i * 3, none⟩)) rfl (by kernel_rfl) (by kernel_rfl) (by kernel_rfl) (fun _ _ _ h => h) (Or.inl ⟨by rfl, fun w hS => by obtain ⟨hS1, hS2⟩ := hS; go_simp⟩) hHeld ?_
  simp only [Act.put, List.setIfInBounds_toArray, List.set_cons_zero, List.set_cons_succ]
  refine wpAnyH_take (i := 15) (oi := ⟨some 41, Op.fieldAddr 70 (Operand.tmp 40) 2, 0, _, _, none⟩) (v := .pointer (some ⟨g, i * 3 + 2, none⟩)) rfl (by kernel_rfl) (by kernel_rfl) (by kernel_rfl) (fun _ _ _ h => h) (Or.inl ⟨by rfl, fun w hS => by obtain ⟨hS1, hS2⟩ := hS; go_simp⟩) hHeld ?_
  simp only [Act.put, List.setIfInBounds_toArray, List.set_cons_zero, List.set_cons_succ]
  refine wpAnyH_ready (rs := [16]) (by kernel_rfl) (by simp) ?_
  refine AllReadyH.cons (o := ⟨none, Op.store 3 (Operand.tmp 41) (Operand.tmp 39), 0, _, _, none⟩) rfl (fun K hK => ?_) AllReadyH.nil
  rw [if_pos (by rfl)]
  have f_o : w2.drew.frozen? ⟨g, i * 3 + 2, none⟩ = false := ownF_frozen (l := cs) HD2.out.own _
  have cl := cl.out
  refine wp_cellS (w2.drew.setCell ⟨g, i * 3 + 2, none⟩ (.int .i64 (f_.bs.length : Int))) (by go_simp) ?_
  clear f_o cl
  refine hK _ _ ⟨(Grown.setCell w2.drew g (i * 3 + 2) _ (S := fun k => k = g) fun _ => rfl).cell hS0.out.1 (fun e => hgp.out e.symm), by rw [ownF_off (w := w2.drew) (l := cs) HD2.out.own (by omega)]; exact hS0.out.2⟩ fun hH9 => ?_
  clear hK
  simp only [Act.put, List.setIfInBounds_toArray, List.set_cons_zero, List.set_cons_succ]
  refine wpAnyH_done (by kernel_rfl) ?_ _
  refine hK10 _ _ ?_
  refine wp_seq_k fun K11 hK11 => ?_
  refine wp_region_list (WL.out ?_)
  refine WL.val (by kernel_rfl) (.int .i64 0) (by go_simp) ?_
  simp only [Act.put, List.setIfInBounds_toArray, List.set_cons_zero, List.set_cons_succ]
  refine WL.nil ?_
  refine hK11 _ _ ?_
  refine wp_ret ?_
  go_ret
  exact ⟨rfl, _, dsk_sync HD2.out HX.out HFI.out, (G2.out.mono (fun k _ h => .inl h)).next ((Grown.refl w2 (fun k => k = g)).drew.trans (Grown.setCell w2.drew g (i * 3 + 2) _ fun _ => rfl)) fun k hk e => .inr (by rw [e]; rfl), fun k hk => dskS_sync HX.out hk⟩
end Go.Proofs.YtennogmeeefopaaDoor
namespace Go.Proofs.YtennogmeeefopaaDoor
open Go.RowKit

/-! ### Worlds: a block that holds these cells. -/
/-! ### Words and bytes as cells. -/
def wordsA (n : Nat) (c : Nat → Int) : Array Value := Array.ofFn (n := n) fun i => .int .u32 (c i.val)
theorem wordsA_size (n : Nat) (c : Nat → Int) : (wordsA n c).size = n := by simp [wordsA]
theorem wordsA_get (n : Nat) (c : Nat → Int) (j : Nat) (h : j < n) : (wordsA n c)[j]? = some (.int .u32 (c j)) := by simp [wordsA, h]
theorem wordsA_set (n : Nat) (c : Nat → Int) (j : Nat) (v : Int) : (wordsA n c).setIfInBounds j (.int .u32 v) = wordsA n (upd c j v) := by
  apply Array.ext_getElem?
  intro i
  rw [Array.getElem?_setIfInBounds]
  by_cases e : j = i
  · subst e
    by_cases hj : j < n <;> simp [wordsA, upd, hj]
  · by_cases hi : i < n <;> simp [wordsA, upd, hi, e, Ne.symm e]
theorem wordsA_one (n : Nat) (c : Nat → Int) : (wordsA n c).all (·.oneCell') = true := by
  rw [Array.all_eq_true_iff_forall_mem]; intro v hv; simp [wordsA] at hv; obtain ⟨i, rfl⟩ := hv; rfl
theorem Tryd.size137 : (Tryd.prog.info? 137).map (·.size) = some 8 := by kernel_rfl
theorem Tryd.size152 : (Tryd.prog.info? 152).map (·.size) = some 64 := by kernel_rfl
theorem Tryd.size139 : (Tryd.prog.info? 139).map (·.size) = some 64 := by kernel_rfl
theorem Tryd.size137W (c : Nat → Int) : (Tryd.prog.info? 137).map (·.size) = some (wordsA 8 c).size := by rw [wordsA_size]; exact Tryd.size137
theorem Tryd.size152W (c : Nat → Int) : (Tryd.prog.info? 152).map (·.size) = some (wordsA 64 c).size := by rw [wordsA_size]; exact Tryd.size152
theorem Tryd.size139B (c : Nat → Int) : (Tryd.prog.info? 139).map (·.size) = some (bytesA 64 c).size := by rw [bytesA_size]; exact Tryd.size139
theorem wordsA_sizes (n : Nat) (c d : Nat → Int) : (wordsA n c).size = (wordsA n d).size := by rw [wordsA_size, wordsA_size]
/-! ### Single operations on whole arrays. -/
section
variable {P : Program}
end
theorem Tryd.new152 (w : World) : (Instr.alloc 152 true (.tuple #[])).run Tryd.prog w = .ok (.pointer (some ⟨w.heap.size, 0, none⟩)) (w.alloc (.cells (wordsA 64 fun _ => 0) 152)) := by kernel_rfl
theorem Tryd.new137 (w : World) : (Instr.alloc 137 true (.tuple #[])).run Tryd.prog w = .ok (.pointer (some ⟨w.heap.size, 0, none⟩)) (w.alloc (.cells (wordsA 8 fun _ => 0) 137)) := by kernel_rfl
end Go.Proofs.YtennogmeeefopaaDoor
namespace Go.Proofs.YtennogmeeefopaaDoor
open Go.RowKit

section
variable {P : Program} {ops : Array Oper} {Q : Exit → Act → World → Prop} {md : Region.Mode}

theorem getD_lt {l : Array Bool} {i : Nat} (h : l.getD i true = false) : ∃ hi : i < l.size, l[i] = false := by
  by_cases hi : i < l.size
  · exact ⟨hi, by simpa [Array.getD, hi] using h⟩
  · simp [Array.getD, hi] at h

/-- Whatever order a region draws: an invariant of what has been carried out serves. -/
theorem wpAny_inv (I : Array Bool → Act → World → Prop)
    (hs : ∀ l a w, I l a w → l.size = ops.size)
    (hstep : ∀ l a w i o, I l a w → l.getD i true = false → ops[i]? = some o → (∀ e ∈ o.after, Region.binds md e = true → l.getD e.on false = true) →
      o.guard = none ∧ o.wp P a w (I (l.setIfInBounds i true)) Q)
    (hback : ∀ i o, ops[i]? = some o → ∀ e ∈ o.after, Region.binds md e = true → e.on < i)
    (hdone : ∀ l a w, I l a w → (∀ i, i < ops.size → l.getD i false = true) → Q .normal a w) :
    ∀ fuel l a w, l.toList.countP (fun b => !b) ≤ fuel → I l a w → wpAny P md ops Q fuel l a w := by
  have hall : ∀ l a w, I l a w → Region.ready md ops l = [] → ∀ i, i < ops.size → l.getD i false = true := by
    intro l a w hI hr i
    induction i using Nat.strongRecOn with
    | ind i ih =>
      intro hi
      by_cases hc : l.getD i true = false
      · have : i ∈ Region.ready md ops l := mem_ready.2 ⟨hc, ops[i], Array.getElem?_eq_getElem hi, fun e he hb => ih _ (hback i _ (Array.getElem?_eq_getElem hi) e he hb) (Nat.lt_trans (hback i _ (Array.getElem?_eq_getElem hi) e he hb) hi)⟩
        rw [hr] at this; simp at this
      · have hl : i < l.size := by rw [hs l a w hI]; exact hi
        simpa [Array.getD, hl] using hc
  intro fuel
  induction fuel with
  | zero =>
    intro l a w hf hI
    have hnil : Region.ready md ops l = [] := by
      rw [List.eq_nil_iff_forall_not_mem]
      intro j hj
      obtain ⟨hj0, _⟩ := mem_ready.1 hj
      obtain ⟨hlt, hv⟩ := getD_lt hj0
      have : 0 < l.toList.countP (fun b => !b) := List.countP_pos_iff.2 ⟨l[j], by simp, by simp [hv]⟩
      omega
    exact ⟨hnil, hdone l a w hI (hall l a w hI hnil)⟩
  | succ fuel ih =>
    intro l a w hf hI
    refine ⟨fun hnil => hdone l a w hI (hall l a w hI hnil), fun i hi => ?_⟩
    obtain ⟨hj0, o, ho, he⟩ := mem_ready.1 hi
    obtain ⟨hlt, hv⟩ := getD_lt hj0
    obtain ⟨hg, hw⟩ := hstep l a w i o hI hj0 ho he
    unfold wpOp
    simp only [ho, Region.wanted, hg, if_true]
    refine .inl (Oper.wp_mono (fun a' w' h' => ih _ a' w' ?_ h') hw)
    have hc := List.countP_set (p := fun b => !b) (l := l.toList) (i := i) (a := true) (by simpa using hlt)
    have hp : 0 < l.toList.countP (fun b => !b) := List.countP_pos_iff.2 ⟨l[i], by simp, by simp [hv]⟩
    have e1 : l.toList[i]'(by simpa using hlt) = false := by simpa using hv
    rw [Array.toList_setIfInBounds, hc, e1]
    generalize List.countP (fun b => !b) l.toList = n at *
    simp
    omega

/-- A region that draws its order, by an invariant. -/
theorem wp_region_inv {id : Nat} {a : Act} {w : World} (hm : P.follows .mixedOrders = true) (I : Array Bool → Act → World → Prop)
    (hs : ∀ l a w, I l a w → l.size = ops.size)
    (hstep : ∀ l a w i o, I l a w → l.getD i true = false → ops[i]? = some o → (∀ e ∈ o.after, Region.binds .any e = true → l.getD e.on false = true) →
      o.guard = none ∧ o.wp P a w (I (l.setIfInBounds i true)) Q)
    (hback : ∀ i o, ops[i]? = some o → ∀ e ∈ o.after, Region.binds .any e = true → e.on < i)
    (hdone : ∀ l a w, I l a w → (∀ i, i < ops.size → l.getD i false = true) → Q .normal a w)
    (h0 : I (Array.replicate ops.size false) a w.drew) : (Code.region id ops true).wp P Q a w :=
  wp_region_any hm (wpAny_inv I hs hstep hback hdone _ _ _ _ (by simp [List.countP_replicate]) h0)

/-- A new variable at 'Oper.wp'. -/
theorem wp_new {o : Oper} {a : Act} {w : World} {K : Act → World → Prop} (t : TypeId) (ho : o.op = .alloc t)
    (cells : Array Value) (hf : ∀ w : World, (Instr.alloc t true (.tuple #[])).run P w = .ok (.pointer (some ⟨w.heap.size, 0, none⟩)) (w.alloc (.cells cells t)))
    (h : K (a.put o.dst (.pointer (some ⟨w.heap.size, 0, none⟩))) (w.alloc (.cells cells t))) : o.wp P a w K Q := by
  unfold Oper.wp execOp
  simp only [ho, Sem.run_bind, hf w, Result.andThen_ok]
  exact h

end
theorem Tryd.enter81 (w : World) (vs : Array Value) : (callFunc 81 vs).run Tryd.prog w = .ok (.enter 81 vs) w := by kernel_rfl
theorem Tryd.enter82 (w : World) (vs : Array Value) : (callFunc 82 vs).run Tryd.prog w = .ok (.enter 82 vs) w := by kernel_rfl
end Go.Proofs.YtennogmeeefopaaDoor
namespace Go.Proofs.YtennogmeeefopaaDoor
open Go.RowKit

section
variable {P : Program} {ops : Array Oper} {Q : Exit → Act → World → Prop}

/-- Every edge that binds leads back. -/
def backB (ops : Array Oper) : Bool := (List.range ops.size).all fun i => match ops[i]? with
  | some o => o.after.all fun e => !Region.binds .any e || decide (e.on < i)
  | none => true
theorem back_of (h : backB ops = true) : ∀ i o, ops[i]? = some o → ∀ e ∈ o.after, Region.binds .any e = true → e.on < i := by
  intro i o ho e he hb
  have hi : i < ops.size := (Array.getElem?_eq_some_iff.1 ho).1
  have h1 := List.all_eq_true.1 h i (List.mem_range.2 hi)
  simp only [ho] at h1
  have h2 := Array.all_eq_true_iff_forall_mem.1 h1 e he
  simpa [hb] using h2

/-- No two operations write one slot; each slot lies in the frame. -/
def dstsB (ops : Array Oper) (n : Nat) : Bool := (List.range ops.size).all fun i => match ops[i]? with
  | some o => (match o.dst with
    | some d => decide (d < n) && (List.range ops.size).all fun j => match ops[j]? with
      | some o' => (o'.dst != some d) || i == j
      | none => true
    | none => true)
  | none => true
theorem dsts_lt {n : Nat} (h : dstsB ops n = true) (i : Nat) (o : Oper) (d : Nat) (ho : ops[i]? = some o) (hd : o.dst = some d) : d < n := by
  have hi : i < ops.size := (Array.getElem?_eq_some_iff.1 ho).1
  have h1 := List.all_eq_true.1 h i (List.mem_range.2 hi)
  simp only [ho, hd, Bool.and_eq_true, decide_eq_true_eq] at h1
  exact h1.1
theorem dsts_inj {n : Nat} (h : dstsB ops n = true) (i j : Nat) (o o' : Oper) (d : Nat) (ho : ops[i]? = some o) (ho' : ops[j]? = some o') (hd : o.dst = some d) (hd' : o'.dst = some d) : i = j := by
  have hi : i < ops.size := (Array.getElem?_eq_some_iff.1 ho).1
  have hj : j < ops.size := (Array.getElem?_eq_some_iff.1 ho').1
  have h1 := List.all_eq_true.1 h i (List.mem_range.2 hi)
  simp only [ho, hd, Bool.and_eq_true, decide_eq_true_eq] at h1
  have h2 := List.all_eq_true.1 h1.2 j (List.mem_range.2 hj)
  simpa [ho', hd'] using h2

/-- The frame behind the first n operations, operation i having yielded V i. -/
def putsTo (ops : Array Oper) (V : Nat → Value) (a0 : Act) : Nat → Act
  | 0 => a0
  | n + 1 => match ops[n]? with
    | some o => (putsTo ops V a0 n).put o.dst (V n)
    | none => putsTo ops V a0 n

theorem putsTo_facts (V : Nat → Value) (a0 : Act) (hd : dstsB ops a0.tmps.size = true) (n : Nat) :
    (putsTo ops V a0 n).defers = a0.defers ∧ (putsTo ops V a0 n).tmps.size = a0.tmps.size ∧
    (∀ t : Nat, (∀ j o, j < n → ops[j]? = some o → o.dst ≠ some t) → (putsTo ops V a0 n).tmps[t]? = a0.tmps[t]?) ∧
    (∀ j o d, j < n → ops[j]? = some o → o.dst = some d → (putsTo ops V a0 n).tmps[d]? = some (V j)) := by
  induction n with
  | zero => exact ⟨rfl, rfl, fun _ _ => rfl, fun j _ _ h => absurd h (by omega)⟩
  | succ n ih =>
    obtain ⟨i1, i2, i3, i4⟩ := ih
    cases hn : ops[n]? with
    | none =>
      have e : putsTo ops V a0 (n + 1) = putsTo ops V a0 n := by simp only [putsTo, hn]
      rw [e]
      refine ⟨i1, i2, fun t ht => i3 t (fun j o hj ho => ht j o (by omega) ho), fun j o d hj ho hdd => ?_⟩
      have : j ≠ n := fun e => by subst e; rw [hn] at ho; cases ho
      exact i4 j o d (by omega) ho hdd
    | some o =>
      have e : putsTo ops V a0 (n + 1) = (putsTo ops V a0 n).put o.dst (V n) := by simp only [putsTo, hn]
      rw [e]
      cases hod : o.dst with
      | none =>
        have e2 : (putsTo ops V a0 n).put none (V n) = putsTo ops V a0 n := rfl
        rw [e2]
        refine ⟨i1, i2, fun t ht => i3 t (fun j o hj ho => ht j o (by omega) ho), fun j o' d hj ho hdd => ?_⟩
        have : j ≠ n := fun e => by subst e; rw [hn] at ho; cases ho; rw [hod] at hdd; cases hdd
        exact i4 j o' d (by omega) ho hdd
      | some dn =>
        have hlt : dn < a0.tmps.size := dsts_lt hd n o dn hn hod
        refine ⟨by simpa [Act.put] using i1, by simpa [Act.put] using i2, fun t ht => ?_, fun j o' d hj ho hdd => ?_⟩
        · have hne : dn ≠ t := fun e => ht n o (by omega) hn (by rw [hod, e])
          simp only [Act.put]
          rw [Array.getElem?_setIfInBounds_ne hne]
          exact i3 t (fun j o hj ho => ht j o (by omega) ho)
        · by_cases hjn : j = n
          · subst hjn
            rw [hn] at ho; cases ho
            rw [hod] at hdd; cases hdd
            simp [Act.put, i2, hlt]
          · have hne : dn ≠ d := fun e => hjn (dsts_inj hd j n o' o d ho hn hdd (by rw [hod, e]))
            simp only [Act.put]
            rw [Array.getElem?_setIfInBounds_ne hne]
            exact i4 j o' d (by omega) ho hdd

theorem act_ext {a b : Act} (h1 : a.tmps = b.tmps) (h2 : a.defers = b.defers) : a = b := by
  cases a; cases b; simp_all

theorem eval_of_get {a : Act} {t : Nat} {v : Value} (h : a.tmps[t]? = some v) : a.eval (.tmp t) = v := by
  simp [Act.eval, h]

/-- A REGION THAT DRAWS ITS ORDER, EACH OPERATION OF WHICH YIELDS THE SAME VALUE WHATEVER THE ORDER: operation i yields V i; W says what holds of the world when the listed ones have been carried out. -/
theorem wp_region_vals {id : Nat} {a0 : Act} {w : World} (hm : P.follows .mixedOrders = true) (V : Nat → Value) (W : Array Bool → World → Prop)
    (hd : dstsB ops a0.tmps.size = true) (hb : backB ops = true)
    (hstep : ∀ (l : Array Bool) (a : Act) (w : World) (i : Nat) (o : Oper),
      (∀ t : Nat, (∀ (j : Nat) (o' : Oper), ops[j]? = some o' → o'.dst ≠ some t) → a.eval (.tmp t) = a0.eval (.tmp t)) →
      (∀ (j : Nat) (o' : Oper) (d : Nat), ops[j]? = some o' → o'.dst = some d → l.getD j false = true → a.eval (.tmp d) = V j) →
      W l w → l.size = ops.size → l.getD i true = false → ops[i]? = some o → (∀ e ∈ o.after, Region.binds .any e = true → l.getD e.on false = true) →
      o.guard = none ∧ o.wp P a w (fun a' w' => a' = a.put o.dst (V i) ∧ W (l.setIfInBounds i true) w') Q)
    (hdone : ∀ l w, W l w → (∀ i, i < ops.size → l.getD i false = true) → Q .normal (putsTo ops V a0 ops.size) w)
    (h0 : W (Array.replicate ops.size false) w.drew) : (Code.region id ops true).wp P Q a0 w := by
  refine wp_region_inv hm (fun l a w => l.size = ops.size ∧ a.defers = a0.defers ∧ a.tmps.size = a0.tmps.size ∧
    (∀ t : Nat, (∀ (j : Nat) (o' : Oper), ops[j]? = some o' → o'.dst ≠ some t) → a.tmps[t]? = a0.tmps[t]?) ∧
    (∀ (j : Nat) (o' : Oper) (d : Nat), ops[j]? = some o' → o'.dst = some d → l.getD j false = true → a.tmps[d]? = some (V j)) ∧ W l w) ?_ ?_ (back_of hb) ?_ ?_
  · intro l a w h; exact h.1
  · rintro l a w i o ⟨h1, h2, h3, h4, h5, h6⟩ hi ho he
    obtain ⟨hg, hw⟩ := hstep l a w i o (fun t ht => by simp only [Act.eval, Array.getD_eq_getD_getElem?]; rw [h4 t ht]) (fun j o' d hj hdd hl => eval_of_get (h5 j o' d hj hdd hl)) h6 h1 hi ho he
    refine ⟨hg, Oper.wp_mono ?_ hw⟩
    rintro a' w' ⟨rfl, hW⟩
    refine ⟨by simpa using h1, ?_, ?_, ?_, ?_, hW⟩
    · cases hod : o.dst <;> simpa [Act.put] using h2
    · cases hod : o.dst <;> simpa [Act.put] using h3
    · intro t ht
      cases hod : o.dst with
      | none => exact h4 t ht
      | some dn =>
        have hne : dn ≠ t := fun e => ht i o ho (by rw [hod, e])
        simp only [Act.put]
        rw [Array.getElem?_setIfInBounds_ne hne]
        exact h4 t ht
    · intro j o' d hj hdd hl
      cases hod : o.dst with
      | none =>
        have hji : i ≠ j := fun e => by subst e; rw [ho] at hj; cases hj; rw [hod] at hdd; cases hdd
        rw [getD_set_ne false hji] at hl
        exact h5 j o' d hj hdd hl
      | some dn =>
        have hlt : dn < a0.tmps.size := dsts_lt hd i o dn ho hod
        by_cases hji : i = j
        · subst hji
          rw [ho] at hj; cases hj
          rw [hod] at hdd; cases hdd
          simp [Act.put, h3, hlt]
        · have hne : dn ≠ d := fun e => hji (dsts_inj hd i j o o' d ho hj (by rw [hod, e]) hdd)
          rw [getD_set_ne false hji] at hl
          simp only [Act.put]
          rw [Array.getElem?_setIfInBounds_ne hne]
          exact h5 j o' d hj hdd hl
  · rintro l a w ⟨h1, h2, h3, h4, h5, h6⟩ hall
    obtain ⟨p1, p2, p3, p4⟩ := putsTo_facts V a0 hd ops.size
    have e : a = putsTo ops V a0 ops.size := by
      refine act_ext (Array.ext_getElem? fun t => ?_) (h2.trans p1.symm)
      by_cases hx : ∃ (j : Nat) (o' : Oper), ops[j]? = some o' ∧ o'.dst = some t
      · obtain ⟨j, o', hj, hdd⟩ := hx
        have hlt : j < ops.size := (Array.getElem?_eq_some_iff.1 hj).1
        rw [h5 j o' t hj hdd (hall j hlt), p4 j o' t hlt hj hdd]
      · have hn : ∀ (j : Nat) (o' : Oper), ops[j]? = some o' → o'.dst ≠ some t := fun j o' hj hdd => hx ⟨j, o', hj, hdd⟩
        rw [h4 t hn, p3 t (fun j o' _ hj => hn j o' hj)]
    rw [e]
    exact hdone l w h6 hall
  · refine ⟨by simp, rfl, rfl, fun _ _ => rfl, fun j o' d _ _ hl => ?_, h0⟩
    simp [Array.getD] at hl

theorem wp_move {o : Oper} {a : Act} {w : World} {K : Act → World → Prop} (x : Operand) (ho : o.op = .move x) (v : Value) (hv : a.eval x = v) (h : K (a.put o.dst v) w) : o.wp P a w K Q :=
  wp_val v (by unfold execOp; simp only [ho, hv]; rfl) h
theorem wp_nilCheck {o : Oper} {a : Act} {w : World} {K : Act → World → Prop} (x : Operand) (ho : o.op = .nilCheck x) (b : Addr) (hv : a.eval x = .pointer (some b)) (h : K (a.put o.dst (.pointer (some b))) w) : o.wp P a w K Q :=
  wp_val _ (by unfold execOp; simp only [ho, hv]; rfl) h
theorem wp_fieldAddr {o : Oper} {a : Act} {w : World} {K : Act → World → Prop} (t : TypeId) (x : Operand) (k : Nat) (ho : o.op = .fieldAddr t x k) (v u : Value) (hv : a.eval x = v)
    (hf : ∀ w : World, (Instr.fieldAt t v k).run P w = .ok u w) (h : K (a.put o.dst u) w) : o.wp P a w K Q := by
  refine wp_val u ?_ h
  unfold execOp
  simp only [ho, hv, Sem.run_bind, hf w, Result.andThen_ok]
  rfl
/-- A whole value into a part of a block. -/
theorem wp_store_part {o : Oper} {a : Act} {w : World} {K : Act → World → Prop} (ty : TypeId) (x y : Operand) (ho : o.op = .store ty x y)
    (g off : Nat) (cells : Array Value) (hx : a.eval x = .pointer (some ⟨g, off, none⟩)) (hy : a.eval y = .agg cells)
    (t : TypeId) (cur : Array Value) (hg : w.heap[g]? = some (.cells cur t (0, 0))) (hi : (P.info? ty).map (·.size) = some cells.size) (hfit : off + cells.size ≤ cur.size)
    (h1 : cells.all (·.oneCell') = true)
    (h : K (a.put o.dst undef) (w.setRow g (cur.toList.take off ++ cells.toList ++ cur.toList.drop (off + cells.size)).toArray)) : o.wp P a w K Q := by
  have hst := run_storeCells_at P g off t cells.toList 0 cur w hg (by simpa using hfit) (fun v hv => (Array.all_eq_true_iff_forall_mem.1 h1) v (by simpa using hv))
  have hrun : (storeVar ty ⟨g, off, none⟩ (.agg cells)).run P w = .ok () (w.setRow g (cur.toList.take off ++ cells.toList ++ cur.toList.drop (off + cells.size)).toArray) := by
    cases hq : P.info? ty with
    | none => simp [hq] at hi
    | some i =>
      have hs : cells.size = i.size := by simp [hq] at hi; omega
      simp only [Nat.add_zero, Array.length_toList] at hst
      simp [storeVar, sizeOf, typeInfo, hq, Value.cells, hs, hst]
  unfold Oper.wp execOp
  simp only [ho, hx, hy, Instr.storeAt, Instr.sureAddr, Sem.run_bind, Sem.run_pure, Result.andThen_ok, hrun]
  exact h
end
end Go.Proofs.YtennogmeeefopaaDoor
namespace Go.Proofs.YtennogmeeefopaaDoor
open Go.RowKit

/-- A word turned to the right by n bits, as the walk spells it. -/
def rot (x n : Int) : Int := bits .or .u32 (x * 2 ^ (32 - n).toNat % 4294967296) (x / 2 ^ n.toNat)

theorem and31 (n : Int) (h1 : 1 ≤ n) (h2 : n ≤ 31) : bits .and .u64 (IntKind.u64.wrap (-n)) 31 = 32 - n := by
  obtain ⟨k, rfl⟩ := Int.eq_ofNat_of_zero_le (show 0 ≤ n by omega)
  have hk : k < 32 := by omega
  have hk1 : 1 ≤ k := by omega
  have : ∀ k : Fin 32, 1 ≤ k.val → bits .and .u64 (IntKind.u64.wrap (-((k.val : Nat) : Int))) 31 = 32 - ((k.val : Nat) : Int) := by decide +kernel
  exact this ⟨k, hk⟩ hk1

set_option maxRecDepth 8000 in
set_option maxHeartbeats 400000 in
theorem rotl_any (x n : Int) (w : World) (h1 : 1 ≤ n) (h2 : n ≤ 31) :
    Calls Tryd.prog 89 #[.int .u32 x, .int .i64 (-n)] w fun e w' => e = .returned (.int .u32 (rot x n)) ∧ w' = w := by
  have ha := and31 n h1 h2
  have hs : 32 - n ≤ 32 := by omega
  have hs0 : 0 ≤ 32 - n := by omega
  have hw : IntKind.u64.wrap (32 - (32 - n)) = n := by rw [IntKind.wrap_u64]; omega
  go_enter Tryd.func89, Tryd.ntmps89
  go_wp2
  go_ret
  exact ⟨rfl, rfl⟩

set_option maxRecDepth 8000 in
set_option maxHeartbeats 400000 in
theorem turn_any (x n : Int) (w : World) (h1 : 1 ≤ n) (h2 : n ≤ 31) :
    Calls Tryd.prog 83 #[.int .u32 x, .int .i64 n] w fun e w' => e = .returned (.int .u32 (rot x n)) ∧ w' = w := by
  go_enter Tryd.func83, Tryd.ntmps83
  go_wp2_with fail
  refine (rotl_any x n _ h1 h2).mono ?_
  rintro e w' ⟨rfl, rfl⟩
  go_wp2
  go_ret
  exact ⟨rfl, rfl⟩

def beginL : List Int := [0x6a09e667, 0xbb67ae85, 0x3c6ef372, 0xa54ff53a, 0x510e527f, 0x9b05688c, 0x1f83d9ab, 0x5be0cd19]
def beginF (i : Nat) : Int := beginL.getD i 0
def roundsL : List Int := [0x428a2f98, 0x71374491, 0xb5c0fbcf, 0xe9b5dba5, 0x3956c25b, 0x59f111f1, 0x923f82a4, 0xab1c5ed5, 0xd807aa98, 0x12835b01, 0x243185be, 0x550c7dc3, 0x72be5d74, 0x80deb1fe, 0x9bdc06a7, 0xc19bf174, 0xe49b69c1, 0xefbe4786, 0x0fc19dc6, 0x240ca1cc, 0x2de92c6f, 0x4a7484aa, 0x5cb0a9dc, 0x76f988da, 0x983e5152, 0xa831c66d, 0xb00327c8, 0xbf597fc7, 0xc6e00bf3, 0xd5a79147, 0x06ca6351, 0x14292967, 0x27b70a85, 0x2e1b2138, 0x4d2c6dfc, 0x53380d13, 0x650a7354, 0x766a0abb, 0x81c2c92e, 0x92722c85, 0xa2bfe8a1, 0xa81a664b, 0xc24b8b70, 0xc76c51a3, 0xd192e819, 0xd6990624, 0xf40e3585, 0x106aa070, 0x19a4c116, 0x1e376c08, 0x2748774c, 0x34b0bcb5, 0x391c0cb3, 0x4ed8aa4a, 0x5b9cca4f, 0x682e6ff3, 0x748f82ee, 0x78a5636f, 0x84c87814, 0x8cc70208, 0x90befffa, 0xa4506ceb, 0xbef9a3f7, 0xc67178f2]
def roundsF (i : Nat) : Int := roundsL.getD i 0

set_option maxRecDepth 10000 in
theorem begin_any (w : World) :
    Calls Tryd.prog 71 #[] w fun e w' => e = .returned (.agg (wordsA 8 beginF)) ∧ w' = w.alloc (.cells (wordsA 8 beginF) 137) := by
  go_enter Tryd.func71, Tryd.ntmps71
  go_step; go_step; go_step
  refine wpList_new rfl 137 rfl _ Tryd.new137 ?_
  go_step; go_step; go_step; go_step; go_step
  refine wpList_bld rfl 137 _ rfl (wordsA 8 beginF) (by kernel_rfl) ?_
  refine wpList_plain rfl fun _ hK => ?_
  refine wp_store_row 137 _ _ rfl w.heap.size (wordsA 8 beginF) rfl rfl 137 (wordsA 8 fun _ => 0) (Blk.new w 137 _) (by simpa [wordsA_size] using Tryd.size137) (by simp [wordsA_size]) (wordsA_one _ _) (hK _ _ ?_)
  rw [World.setRow_alloc_new]
  go_step; go_step; go_step; go_step
  exact bodyPost_ret (v := .agg (wordsA 8 beginF)) (results_cell_row Tryd.results71 _ _ w.heap.size 137 _ (0, 0) _ rfl (heap_alloc_new _ _) Tryd.underlying137 rfl (by simpa [wordsA_size] using Tryd.size137)) rfl ⟨rfl, rfl⟩

set_option maxRecDepth 10000 in
theorem rounds_any (w : World) :
    Calls Tryd.prog 81 #[] w fun e w' => e = .returned (.agg (wordsA 64 roundsF)) ∧ w' = w.alloc (.cells (wordsA 64 roundsF) 152) := by
  go_enter Tryd.func81, Tryd.ntmps81
  go_step; go_step; go_step
  refine wpList_new rfl 152 rfl _ Tryd.new152 ?_
  go_step; go_step; go_step; go_step; go_step
  refine wpList_bld rfl 152 _ rfl (wordsA 64 roundsF) (by kernel_rfl) ?_
  refine wpList_plain rfl fun _ hK => ?_
  refine wp_store_row 152 _ _ rfl w.heap.size (wordsA 64 roundsF) rfl rfl 152 (wordsA 64 fun _ => 0) (Blk.new w 152 _) (by simpa [wordsA_size] using Tryd.size152) (by simp [wordsA_size]) (wordsA_one _ _) (hK _ _ ?_)
  rw [World.setRow_alloc_new]
  go_step; go_step; go_step; go_step
  exact bodyPost_ret (v := .agg (wordsA 64 roundsF)) (results_cell_row Tryd.results81 _ _ w.heap.size 152 _ (0, 0) _ rfl (heap_alloc_new _ _) Tryd.underlying152 rfl (by simpa [wordsA_size] using Tryd.size152)) rfl ⟨rfl, rfl⟩

end Go.Proofs.YtennogmeeefopaaDoor
namespace Go.Proofs.YtennogmeeefopaaDoor
open Go.RowKit

/-- The word of a piece's bytes 4 t to 4 t + 3. -/
def be32 (b : Nat → Int) (t : Nat) : Int :=
  bits .or .u32 (bits .or .u32 (bits .or .u32 (b (4 * t) % 4294967296 * 16777216 % 4294967296) (b (4 * t + 1) % 4294967296 * 65536 % 4294967296)) (b (4 * t + 2) % 4294967296 * 256 % 4294967296)) (b (4 * t + 3) % 4294967296)
def sig0 (x : Int) : Int := bits .xor .u32 (bits .xor .u32 (rot x 7) (rot x 18)) (x / 8)
def sig1 (x : Int) : Int := bits .xor .u32 (bits .xor .u32 (rot x 17) (rot x 19)) (x / 1024)
def nextW (c : Nat → Int) (t : Nat) : Int := (((c (t - 16) + sig0 (c (t - 15))) % 4294967296 + c (t - 7)) % 4294967296 + sig1 (c (t - 2))) % 4294967296
def sched (b : Nat → Int) : Nat → (Nat → Int)
  | 0 => fun _ => 0
  | t + 1 => upd (sched b t) t (if t < 16 then be32 b t else nextW (sched b t) t)

set_option maxRecDepth 8000 in
set_option maxHeartbeats 2000000 in
theorem spread_any (b : Nat → Int) (w : World) :
    Calls Tryd.prog 82 #[.agg (bytesA 64 b)] w fun e w' => e = .returned (.agg (wordsA 64 (sched b 64))) ∧ Below w.heap.size w w' := by
  go_enter Tryd.func82, Tryd.ntmps82
  go_wp2_with (first | (refine wpList_boxA rfl 139 _ rfl (bytesA 64 b) rfl ?_) | (refine wpList_new rfl 152 rfl _ Tryd.new152 ?_))
  have hP := ((Blk.new w 139 (bytesA 64 b)).alloc (.cells (wordsA 64 fun _ => 0) 152)).alloc (.cells (wordsA 64 fun _ => 0) 152)
  have hR := (Blk.new (w.alloc (.cells (bytesA 64 b) 139)) 152 (wordsA 64 fun _ => 0)).alloc (.cells (wordsA 64 fun _ => 0) 152)
  have hW := (Blk.new ((w.alloc (.cells (bytesA 64 b) 139)).alloc (.cells (wordsA 64 fun _ => 0) 152)) 152 (wordsA 64 fun _ => 0))
  have hB : Below w.heap.size w (((w.alloc (.cells (bytesA 64 b) 139)).alloc (.cells (wordsA 64 fun _ => 0) 152)).alloc (.cells (wordsA 64 fun _ => 0) 152)) :=
    (((Below.refl _ _).alloc (Nat.le_refl _) _).alloc (by simp) _).alloc (by simp; omega) _
  simp only [World.size_alloc] at hR hW ⊢
  generalize (((w.alloc (.cells (bytesA 64 b) 139)).alloc (.cells (wordsA 64 fun _ => 0) 152)).alloc (.cells (wordsA 64 fun _ => 0) 152)) = w0 at *
  go_loopw [8] (fun i wr => ∃ t : Nat, t ≤ 16 ∧ i = .int .i64 t ∧ Blk wr w.heap.size 139 (bytesA 64 b) ∧ Blk wr (w.heap.size + 1) 152 (wordsA 64 fun _ => 0) ∧ Blk wr (w.heap.size + 1 + 1) 152 (wordsA 64 (sched b t)) ∧ Below w.heap.size w wr) (fun i _ => 16 - (intOf i).toNat)
  case atStart => exact ⟨0, by omega, rfl, hP, hR, hW, hB⟩
  case round =>
    clear hP hR hW hB
    obtain ⟨t, ht, rfl, hP, hR, hW, hB⟩ := hrel
    by_cases hlt : t < 16
    · have e0 : wr.cell? ⟨w.heap.size, 4 * t, none⟩ = some (.int .u8 (b (4 * t))) := by rw [hP.cell, bytesA_get _ _ _ (by omega)]
      have e1 : wr.cell? ⟨w.heap.size, 4 * t + 1, none⟩ = some (.int .u8 (b (4 * t + 1))) := by rw [hP.cell, bytesA_get _ _ _ (by omega)]
      have e2 : wr.cell? ⟨w.heap.size, 4 * t + 2, none⟩ = some (.int .u8 (b (4 * t + 2))) := by rw [hP.cell, bytesA_get _ _ _ (by omega)]
      have e3 : wr.cell? ⟨w.heap.size, 4 * t + 3, none⟩ = some (.int .u8 (b (4 * t + 3))) := by rw [hP.cell, bytesA_get _ _ _ (by omega)]
      have e4 : wr.cell? ⟨w.heap.size + 1 + 1, t, none⟩ = some (.int .u32 (sched b t t)) := by rw [hW.cell, wordsA_get _ _ _ (by omega)]
      have e5 : wr.frozen? ⟨w.heap.size + 1 + 1, t, none⟩ = false := hW.frozen t
      go_wp2
      go_region
      go_wp2
      go_roundw
      case rel => exact ⟨t + 1, by omega, by go_num, (hP.set_ne (by omega) _).drew, (hR.set_ne (by omega) _).drew, by
        have h := (hW.set t (.int .u32 (be32 b t))).drew
        rw [wordsA_set] at h
        simp only [sched, if_pos hlt]; exact h, (hB.setCell (by show w.heap.size ≤ w.heap.size + 1 + 1; omega) _).drew⟩
      case measure => simp [intOf]; omega
    · obtain rfl : t = 16 := by omega
      clear hlt ht
      go_wp2
      go_loopw [5] (fun i wr => ∃ t : Nat, 16 ≤ t ∧ t ≤ 64 ∧ i = .int .i64 t ∧ Blk wr (w.heap.size + 1) 152 (wordsA 64 fun _ => 0) ∧ Blk wr (w.heap.size + 1 + 1) 152 (wordsA 64 (sched b t)) ∧ Below w.heap.size w wr) (fun i _ => 64 - (intOf i).toNat)
      case atStart => exact ⟨16, by omega, by omega, rfl, hR, hW, hB⟩
      case round =>
        clear hP hR hW hB
        obtain ⟨t, ht0, ht, rfl, hR, hW, hB⟩ := hrel
        by_cases hlt : t < 64
        · have e16 : wr.cell? ⟨w.heap.size + 1 + 1, t - 16, none⟩ = some (.int .u32 (sched b t (t - 16))) := by rw [hW.cell, wordsA_get _ _ _ (by omega)]
          have e15 : wr.cell? ⟨w.heap.size + 1 + 1, t - 15, none⟩ = some (.int .u32 (sched b t (t - 15))) := by rw [hW.cell, wordsA_get _ _ _ (by omega)]
          have e7 : wr.cell? ⟨w.heap.size + 1 + 1, t - 7, none⟩ = some (.int .u32 (sched b t (t - 7))) := by rw [hW.cell, wordsA_get _ _ _ (by omega)]
          have e2 : wr.cell? ⟨w.heap.size + 1 + 1, t - 2, none⟩ = some (.int .u32 (sched b t (t - 2))) := by rw [hW.cell, wordsA_get _ _ _ (by omega)]
          have e0 : wr.cell? ⟨w.heap.size + 1 + 1, t, none⟩ = some (.int .u32 (sched b t t)) := by rw [hW.cell, wordsA_get _ _ _ (by omega)]
          have ef : wr.frozen? ⟨w.heap.size + 1 + 1, t, none⟩ = false := hW.frozen t
          have hlt' : (t : Int) < 64 := by omega
          have ht0' : (16 : Int) ≤ (t : Int) := by omega
          have w16 : IntKind.i64.wrap ((t : Int) - 16) = (t : Int) - 16 := by rw [IntKind.wrap_i64]; omega
          have w7 : IntKind.i64.wrap ((t : Int) - 7) = (t : Int) - 7 := by rw [IntKind.wrap_i64]; omega
          have n16 : ((t : Int) - 16).toNat = t - 16 := by omega
          have n7 : ((t : Int) - 7).toNat = t - 7 := by omega
          have g16 : 0 ≤ (t : Int) - 16 := by omega
          have g7 : 0 ≤ (t : Int) - 7 := by omega
          have l16 : (t : Int) - 16 < 64 := by omega
          have l7 : (t : Int) - 7 < 64 := by omega
          have h7 : (7 : Int) ≤ (t : Int) := by omega
          have k16 : ∀ v, (wr.setCell ⟨w.heap.size + 1 + 1, t, none⟩ v).cell? ⟨w.heap.size + 1 + 1, t - 16, none⟩ = some (.int .u32 (sched b t (t - 16))) := fun v => by rw [World.cell?_setCell_other _ _ _ _ (by intro e; injection e; omega)]; exact e16
          have k7 : ∀ v, (wr.setCell ⟨w.heap.size + 1 + 1, t, none⟩ v).cell? ⟨w.heap.size + 1 + 1, t - 7, none⟩ = some (.int .u32 (sched b t (t - 7))) := fun v => by rw [World.cell?_setCell_other _ _ _ _ (by intro e; injection e; omega)]; exact e7
          go_wp2
          go_region
          go_wp2
          go_region_held3 (fun w' => w'.cell? ⟨w.heap.size + 1 + 1, t - 16, none⟩ = some (.int .u32 (sched b t (t - 16))) ∧ w'.cell? ⟨w.heap.size + 1 + 1, t - 7, none⟩ = some (.int .u32 (sched b t (t - 7)))) (go_keep) (first | (go_at_call 83; refine (turn_any _ _ _ (by omega) (by omega)).mono ?_; rintro e w' ⟨rfl, rfl⟩))
          go_wp2
          go_roundw
          case rel =>
            go_tidy
            simp only [IntKind.wrap_u32']
            repeat apply Exists.intro
            refine ⟨?_, rfl⟩
            exact ⟨t + 1, by omega, by omega, by go_num, (hR.set_ne (by omega) _).drew.drew, by
              have h := (hW.set t (.int .u32 (nextW (sched b t) t))).drew.drew
              rw [wordsA_set] at h
              simp only [sched, if_neg (show ¬ t < 16 by omega)]; exact h, (hB.setCell (by show w.heap.size ≤ w.heap.size + 1 + 1; omega) _).drew.drew⟩
          case measure => simp [intOf]; omega
        · obtain rfl : t = 64 := by omega
          clear hlt ht ht0
          obtain ⟨c, hc⟩ : ∃ c, Hid (c = sched b 64) := ⟨_, rfl⟩
          rw [← hc.out] at hW
          go_wp2_with (refine wpList_load_row rfl 152 (.tmp 3) rfl (w.heap.size + 1 + 1) rfl 152 (wordsA 64 c) (0, 0) (.array 64 111) hW Tryd.underlying152 rfl (Tryd.size152W _) ?_; refine wpList_store_row rfl 152 (.tmp 2) (.tmp 84) rfl (w.heap.size + 1) (wordsA 64 c) rfl rfl 152 (wordsA 64 fun _ => 0) hR (Tryd.size152W _) (wordsA_sizes _ _ _) (wordsA_one _ _) ?_)
          exact bodyPost_ret (v := .agg (wordsA 64 c)) (results_cell_row Tryd.results82 _ _ (w.heap.size + 1) 152 _ (0, 0) _ rfl (hR.setRow _) Tryd.underlying152 rfl (Tryd.size152W _)) rfl ⟨by rw [hc.out], below_setRow hB (by omega) _⟩
end Go.Proofs.YtennogmeeefopaaDoor
namespace Go.Proofs.YtennogmeeefopaaDoor
open Go.RowKit

/-- What holds in the first statement of mix, whatever has been carried out of it. -/
structure MixJ (N : Nat) (w0 : World) (s b : Nat → Int) (w : World) (b0 b1 b2 b3 b4 b5 b6 : Bool) (v5 v6 v18 v19 v20 : Value) : Prop where
  below : Below N w0 w
  hN : N + 3 ≤ w.heap.size
  k0 : Blk w N 137 (wordsA 8 s)
  k1 : Blk w (N + 1) 139 (bytesA 64 b)
  k2 : Blk w (N + 1 + 1) 137 (wordsA 8 fun _ => 0)
  e18 : b0 = true → v18 = .agg (wordsA 64 roundsF)
  e19 : b1 = true → v19 = .agg (bytesA 64 b)
  e20 : b2 = true → v20 = .agg (wordsA 64 (sched b 64))
  e5 : b3 = true → ∃ g c, v5 = ptr g ∧ N + 3 ≤ g ∧ Blk w g 152 (wordsA 64 c) ∧ (b5 = true → c = roundsF)
  e6 : b4 = true → ∃ g c, v6 = ptr g ∧ N + 3 ≤ g ∧ Blk w g 152 (wordsA 64 c) ∧ (b6 = true → c = sched b 64)
  ne : b3 = true → b4 = true → v5 ≠ v6
  w5 : b5 = true → b3 = true
  w6 : b6 = true → b4 = true

theorem MixJ.later {N : Nat} {w0 : World} {s b : Nat → Int} {w w' : World} {b0 b1 b2 b3 b4 b5 b6 : Bool} {v5 v6 v18 v19 v20 : Value}
    (h : MixJ N w0 s b w b0 b1 b2 b3 b4 b5 b6 v5 v6 v18 v19 v20) (hb : Below w.heap.size w w') : MixJ N w0 s b w' b0 b1 b2 b3 b4 b5 b6 v5 v6 v18 v19 v20 where
  below := h.below.trans (hb.mono (by have := h.hN; omega))
  hN := Nat.le_trans h.hN hb.size
  k0 := h.k0.below hb h.k0.lt
  k1 := h.k1.below hb h.k1.lt
  k2 := h.k2.below hb h.k2.lt
  e18 := h.e18
  e19 := h.e19
  e20 := h.e20
  e5 h3 := by obtain ⟨g, c, h1, h2, h3, h4⟩ := h.e5 h3; exact ⟨g, c, h1, h2, h3.below hb h3.lt, h4⟩
  e6 h3 := by obtain ⟨g, c, h1, h2, h3, h4⟩ := h.e6 h3; exact ⟨g, c, h1, h2, h3.below hb h3.lt, h4⟩
  ne := h.ne
  w5 := h.w5
  w6 := h.w6

theorem MixJ.new3 {N : Nat} {w0 : World} {s b : Nat → Int} {w : World} {b0 b1 b2 b4 b5 b6 : Bool} {v5 v6 v18 v19 v20 : Value}
    (h : MixJ N w0 s b w b0 b1 b2 false b4 b5 b6 v5 v6 v18 v19 v20) :
    MixJ N w0 s b (w.alloc (.cells (wordsA 64 fun _ => 0) 152)) b0 b1 b2 true b4 b5 b6 (ptr w.heap.size) v6 v18 v19 v20 :=
  { h.later (below_new w _) with
    e5 := fun _ => ⟨w.heap.size, _, rfl, h.hN, Blk.new _ _ _, fun e => by have := h.w5 e; simp at this⟩
    w5 := fun _ => rfl
    ne := fun _ h4 => by
      obtain ⟨g, c, h1, h2, h3, h4⟩ := h.e6 h4
      have := h3.lt
      rw [h1]; intro e; simp at e; try omega }
theorem MixJ.new4 {N : Nat} {w0 : World} {s b : Nat → Int} {w : World} {b0 b1 b2 b3 b5 b6 : Bool} {v5 v6 v18 v19 v20 : Value}
    (h : MixJ N w0 s b w b0 b1 b2 b3 false b5 b6 v5 v6 v18 v19 v20) :
    MixJ N w0 s b (w.alloc (.cells (wordsA 64 fun _ => 0) 152)) b0 b1 b2 b3 true b5 b6 v5 (ptr w.heap.size) v18 v19 v20 :=
  { h.later (below_new w _) with
    e6 := fun _ => ⟨w.heap.size, _, rfl, h.hN, Blk.new _ _ _, fun e => by have := h.w6 e; simp at this⟩
    w6 := fun _ => rfl
    ne := fun h3 _ => by
      obtain ⟨g, c, h1, h2, h3, h4⟩ := h.e5 h3
      have := h3.lt
      rw [h1]; intro e; simp at e; try omega }
theorem MixJ.store5 {N : Nat} {w0 : World} {s b : Nat → Int} {w : World} {b0 b1 b2 b4 b5 b6 : Bool} {g : Nat} {c : Nat → Int} {v6 v18 v19 v20 : Value}
    (h : MixJ N w0 s b w b0 b1 b2 true b4 b5 b6 (ptr g) v6 v18 v19 v20) (hg : N + 3 ≤ g) (hb : Blk w g 152 (wordsA 64 c)) :
    MixJ N w0 s b (w.setRow g (wordsA 64 roundsF)) b0 b1 b2 true b4 true b6 (ptr g) v6 v18 v19 v20 :=
  { h with
    below := below_setRow h.below (by omega) _
    hN := by rw [setRow_size]; exact h.hN
    k0 := h.k0.setRow_ne (by omega) _
    k1 := h.k1.setRow_ne (by omega) _
    k2 := h.k2.setRow_ne (by omega) _
    e5 := fun _ => ⟨g, roundsF, rfl, hg, hb.setRow _, fun _ => rfl⟩
    w5 := fun _ => rfl
    e6 := fun h4 => by
      obtain ⟨g', c', h1, h2, h3, h5⟩ := h.e6 h4
      exact ⟨g', c', h1, h2, h3.setRow_ne (fun e => h.ne rfl h4 (by rw [h1, e])) _, h5⟩ }
theorem MixJ.store6 {N : Nat} {w0 : World} {s b : Nat → Int} {w : World} {b0 b1 b2 b3 b5 b6 : Bool} {g : Nat} {c : Nat → Int} {v5 v18 v19 v20 : Value}
    (h : MixJ N w0 s b w b0 b1 b2 b3 true b5 b6 v5 (ptr g) v18 v19 v20) (hg : N + 3 ≤ g) (hb : Blk w g 152 (wordsA 64 c)) :
    MixJ N w0 s b (w.setRow g (wordsA 64 (sched b 64))) b0 b1 b2 b3 true b5 true v5 (ptr g) v18 v19 v20 :=
  { h with
    below := below_setRow h.below (by omega) _
    hN := by rw [setRow_size]; exact h.hN
    k0 := h.k0.setRow_ne (by omega) _
    k1 := h.k1.setRow_ne (by omega) _
    k2 := h.k2.setRow_ne (by omega) _
    e6 := fun _ => ⟨g, sched b 64, rfl, hg, hb.setRow _, fun _ => rfl⟩
    w6 := fun _ => rfl
    e5 := fun h4 => by
      obtain ⟨g', c', h1, h2, h3, h5⟩ := h.e5 h4
      exact ⟨g', c', h1, h2, h3.setRow_ne (fun e => h.ne h4 rfl (by rw [h1, e])) _, h5⟩ }

/-- The frame of mix in that statement. -/
def fr5 (a0 : Act) (v5 v6 v18 v19 v20 : Value) : Act := ((((a0.put (some 5) v5).put (some 6) v6).put (some 18) v18).put (some 19) v19).put (some 20) v20

theorem put_none (a : Act) (v : Value) : a.put none v = a := rfl
theorem put_put (a : Act) (d : Nat) (v u : Value) : (a.put (some d) v).put (some d) u = a.put (some d) u := by
  simp [Act.put]
theorem put_swap (a : Act) (d e : Nat) (v u : Value) (h : d ≠ e) : (a.put (some d) v).put (some e) u = (a.put (some e) u).put (some d) v :=
  Act.put_comm a v u (fun x hx => by injection hx with hx; subst hx; simpa using Ne.symm h)
theorem eval_same (a : Act) (d : Nat) (v : Value) (h : d < a.tmps.size) : (a.put (some d) v).eval (.tmp d) = v := by
  simp [Act.put, Act.eval, Array.getD, h]
theorem eval_other (a : Act) (d j : Nat) (v : Value) (h : d ≠ j) : (a.put (some d) v).eval (.tmp j) = a.eval (.tmp j) :=
  Act.eval_put (fun x hx => by injection hx with hx; subst hx; simpa using Ne.symm h)
theorem size_put (a : Act) (d : Option Tmp) (v : Value) : (a.put d v).tmps.size = a.tmps.size := by cases d <;> simp [Act.put]

theorem fr5_p5 (a0 : Act) (v5 v6 v18 v19 v20 u : Value) : (fr5 a0 v5 v6 v18 v19 v20).put (some 5) u = fr5 a0 u v6 v18 v19 v20 := by
  unfold fr5
  rw [put_swap _ 20 5 _ _ (by decide), put_swap _ 19 5 _ _ (by decide), put_swap _ 18 5 _ _ (by decide), put_swap _ 6 5 _ _ (by decide), put_put]
theorem fr5_p6 (a0 : Act) (v5 v6 v18 v19 v20 u : Value) : (fr5 a0 v5 v6 v18 v19 v20).put (some 6) u = fr5 a0 v5 u v18 v19 v20 := by
  unfold fr5
  rw [put_swap _ 20 6 _ _ (by decide), put_swap _ 19 6 _ _ (by decide), put_swap _ 18 6 _ _ (by decide), put_put]
theorem fr5_p18 (a0 : Act) (v5 v6 v18 v19 v20 u : Value) : (fr5 a0 v5 v6 v18 v19 v20).put (some 18) u = fr5 a0 v5 v6 u v19 v20 := by
  unfold fr5
  rw [put_swap _ 20 18 _ _ (by decide), put_swap _ 19 18 _ _ (by decide), put_put]
theorem fr5_p19 (a0 : Act) (v5 v6 v18 v19 v20 u : Value) : (fr5 a0 v5 v6 v18 v19 v20).put (some 19) u = fr5 a0 v5 v6 v18 u v20 := by
  unfold fr5
  rw [put_swap _ 20 19 _ _ (by decide), put_put]
theorem fr5_p20 (a0 : Act) (v5 v6 v18 v19 v20 u : Value) : (fr5 a0 v5 v6 v18 v19 v20).put (some 20) u = fr5 a0 v5 v6 v18 v19 u := by
  unfold fr5
  rw [put_put]
theorem fr5_e3 (a0 : Act) (v5 v6 v18 v19 v20 : Value) : (fr5 a0 v5 v6 v18 v19 v20).eval (.tmp 3) = a0.eval (.tmp 3) := by
  unfold fr5
  rw [eval_other _ 20 3 _ (by decide), eval_other _ 19 3 _ (by decide), eval_other _ 18 3 _ (by decide), eval_other _ 6 3 _ (by decide), eval_other _ 5 3 _ (by decide)]
theorem fr5_e5 (a0 : Act) (v5 v6 v18 v19 v20 : Value) (h : 20 < a0.tmps.size) : (fr5 a0 v5 v6 v18 v19 v20).eval (.tmp 5) = v5 := by
  unfold fr5
  rw [eval_other _ 20 5 _ (by decide), eval_other _ 19 5 _ (by decide), eval_other _ 18 5 _ (by decide), eval_other _ 6 5 _ (by decide), eval_same _ _ _ (by omega)]
theorem fr5_e6 (a0 : Act) (v5 v6 v18 v19 v20 : Value) (h : 20 < a0.tmps.size) : (fr5 a0 v5 v6 v18 v19 v20).eval (.tmp 6) = v6 := by
  unfold fr5
  rw [eval_other _ 20 6 _ (by decide), eval_other _ 19 6 _ (by decide), eval_other _ 18 6 _ (by decide), eval_same _ _ _ (by rw [size_put]; omega)]
theorem fr5_e18 (a0 : Act) (v5 v6 v18 v19 v20 : Value) (h : 20 < a0.tmps.size) : (fr5 a0 v5 v6 v18 v19 v20).eval (.tmp 18) = v18 := by
  unfold fr5
  rw [eval_other _ 20 18 _ (by decide), eval_other _ 19 18 _ (by decide), eval_same _ _ _ (by rw [size_put, size_put]; omega)]
theorem fr5_e19 (a0 : Act) (v5 v6 v18 v19 v20 : Value) (h : 20 < a0.tmps.size) : (fr5 a0 v5 v6 v18 v19 v20).eval (.tmp 19) = v19 := by
  unfold fr5
  rw [eval_other _ 20 19 _ (by decide), eval_same _ _ _ (by rw [size_put, size_put, size_put]; omega)]
theorem fr5_e20 (a0 : Act) (v5 v6 v18 v19 v20 : Value) (h : 20 < a0.tmps.size) : (fr5 a0 v5 v6 v18 v19 v20).eval (.tmp 20) = v20 := by
  unfold fr5
  rw [eval_same _ _ _ (by rw [size_put, size_put, size_put, size_put]; omega)]

def mo0 (q : String) : Oper := { dst := some 18, op := Op.call { callee := Callee.value (Operand.func 81), args := #[], argTypes := #[] }, type := 152, pos := q, after := #[], guard := none }
def mo1 (q : String) : Oper := { dst := some 19, op := Op.load 139 (Operand.tmp 3), type := 139, pos := q, after := #[], guard := none }
def mo2 (q : String) : Oper := { dst := some 20, op := Op.call { callee := Callee.value (Operand.func 82), args := #[Operand.tmp 19], argTypes := #[139] }, type := 152, pos := q, after := #[{ on := 1, ground := Ground.data }, { on := 0, ground := Ground.chain }], guard := none }
def mo3 (q : String) : Oper := { dst := some 5, op := Op.alloc 152, type := 0, pos := q, after := #[], guard := none }
def mo4 (q : String) : Oper := { dst := some 6, op := Op.alloc 152, type := 0, pos := q, after := #[], guard := none }
def mo5 (q : String) : Oper := { dst := none, op := Op.store 152 (Operand.tmp 5) (Operand.tmp 18), type := 0, pos := q, after := #[{ on := 3, ground := Ground.data }, { on := 0, ground := Ground.data }, { on := 2, ground := Ground.chain }, { on := 0, ground := Ground.phase }, { on := 1, ground := Ground.textOnly Departure.lateStores }, { on := 2, ground := Ground.textOnly Departure.lateStoresUnsure }, { on := 3, ground := Ground.phase }, { on := 4, ground := Ground.phase }], guard := none }
def mo6 (q : String) : Oper := { dst := none, op := Op.store 152 (Operand.tmp 6) (Operand.tmp 20), type := 0, pos := q, after := #[{ on := 4, ground := Ground.data }, { on := 2, ground := Ground.data }, { on := 5, ground := Ground.chain }, { on := 0, ground := Ground.phase }, { on := 1, ground := Ground.phase }, { on := 2, ground := Ground.phase }, { on := 3, ground := Ground.phase }, { on := 4, ground := Ground.phase }, { on := 5, ground := Ground.phase }], guard := none }

/-- What holds of the frame, the world and what has been carried out. -/
def MixI (N : Nat) (w : World) (s b : Nat → Int) (a0 : Act) (l : Array Bool) (a : Act) (wc : World) : Prop :=
  ∃ b0 b1 b2 b3 b4 b5 b6 : Bool, l = #[b0, b1, b2, b3, b4, b5, b6] ∧ ∃ v5 v6 v18 v19 v20, a = fr5 a0 v5 v6 v18 v19 v20 ∧ MixJ N w s b wc b0 b1 b2 b3 b4 b5 b6 v5 v6 v18 v19 v20

section
variable {N : Nat} {w wc : World} {s b : Nat → Int} {a0 : Act} {b0 b1 b2 b3 b4 b5 b6 : Bool} {v5 v6 v18 v19 v20 : Value} {Q : Exit → Act → World → Prop}
theorem mix_s0 {o : Oper} (ho : o.op = .call { callee := .value (.func 81), args := #[], argTypes := #[] }) (hd : o.dst = some 18) (hJ : MixJ N w s b wc b0 b1 b2 b3 b4 b5 b6 v5 v6 v18 v19 v20) :
    o.wp Tryd.prog (fr5 a0 v5 v6 v18 v19 v20) wc (MixI N w s b a0 #[true, b1, b2, b3, b4, b5, b6]) Q :=
  wp_callF 81 #[] #[] ho Tryd.enter81 #[] (by simp) (fun v w' => v = .agg (wordsA 64 roundsF) ∧ w' = wc.alloc (.cells (wordsA 64 roundsF) 152))
    ((rounds_any wc).mono (by rintro e w' ⟨rfl, rfl⟩; exact ⟨_, rfl, rfl, rfl⟩))
    (by rintro v w' ⟨rfl, rfl⟩; rw [hd]; exact ⟨true, b1, b2, b3, b4, b5, b6, rfl, v5, v6, _, v19, v20, fr5_p18 _ _ _ _ _ _ _, { hJ.later (below_new wc _) with e18 := fun _ => rfl }⟩)
theorem mix_s1 {o : Oper} (ho : o.op = .load 139 (.tmp 3)) (hd : o.dst = some 19) (h3 : a0.eval (.tmp 3) = ptr (N + 1)) (hJ : MixJ N w s b wc b0 b1 b2 b3 b4 b5 b6 v5 v6 v18 v19 v20) :
    o.wp Tryd.prog (fr5 a0 v5 v6 v18 v19 v20) wc (MixI N w s b a0 #[b0, true, b2, b3, b4, b5, b6]) Q :=
  wp_load_row 139 (.tmp 3) ho (N + 1) (by rw [fr5_e3]; exact h3) 139 (bytesA 64 b) (0, 0) (.array 64 5) hJ.k1 Tryd.underlying139 rfl (Tryd.size139B _)
    (by rw [hd]; exact ⟨b0, true, b2, b3, b4, b5, b6, rfl, v5, v6, v18, _, v20, fr5_p19 _ _ _ _ _ _ _, { hJ with e19 := fun _ => rfl }⟩)
theorem mix_s2 {o : Oper} (ho : o.op = .call { callee := .value (.func 82), args := #[.tmp 19], argTypes := #[139] }) (hd : o.dst = some 20) (hsz : 20 < a0.tmps.size) (hJ : MixJ N w s b wc b0 true b2 b3 b4 b5 b6 v5 v6 v18 v19 v20) :
    o.wp Tryd.prog (fr5 a0 v5 v6 v18 v19 v20) wc (MixI N w s b a0 #[b0, true, true, b3, b4, b5, b6]) Q :=
  wp_callF 82 #[.tmp 19] #[139] ho Tryd.enter82 #[.agg (bytesA 64 b)] (by rw [hJ.e19 rfl]; simp only [List.map_toArray, List.map_cons, List.map_nil, fr5_e19 _ _ _ _ _ _ hsz])
    (fun v w' => v = .agg (wordsA 64 (sched b 64)) ∧ Below wc.heap.size wc w') ((spread_any b wc).mono (by rintro e w' ⟨rfl, hb⟩; exact ⟨_, rfl, rfl, hb⟩))
    (by rintro v w' ⟨rfl, hb⟩; rw [hd]; exact ⟨b0, true, true, b3, b4, b5, b6, rfl, v5, v6, v18, _, _, fr5_p20 _ _ _ _ _ _ _, { hJ.later hb with e20 := fun _ => rfl }⟩)
theorem mix_s3 {o : Oper} (ho : o.op = .alloc 152) (hd : o.dst = some 5) (hJ : MixJ N w s b wc b0 b1 b2 false b4 b5 b6 v5 v6 v18 v19 v20) :
    o.wp Tryd.prog (fr5 a0 v5 v6 v18 v19 v20) wc (MixI N w s b a0 #[b0, b1, b2, true, b4, b5, b6]) Q :=
  wp_new 152 ho _ Tryd.new152 (by rw [hd]; exact ⟨b0, b1, b2, true, b4, b5, b6, rfl, _, v6, v18, v19, v20, fr5_p5 _ _ _ _ _ _ _, hJ.new3⟩)
theorem mix_s4 {o : Oper} (ho : o.op = .alloc 152) (hd : o.dst = some 6) (hJ : MixJ N w s b wc b0 b1 b2 b3 false b5 b6 v5 v6 v18 v19 v20) :
    o.wp Tryd.prog (fr5 a0 v5 v6 v18 v19 v20) wc (MixI N w s b a0 #[b0, b1, b2, b3, true, b5, b6]) Q :=
  wp_new 152 ho _ Tryd.new152 (by rw [hd]; exact ⟨b0, b1, b2, b3, true, b5, b6, rfl, v5, _, v18, v19, v20, fr5_p6 _ _ _ _ _ _ _, hJ.new4⟩)
theorem mix_s5 {o : Oper} (ho : o.op = .store 152 (.tmp 5) (.tmp 18)) (hd : o.dst = none) (hsz : 20 < a0.tmps.size) (hJ : MixJ N w s b wc true b1 b2 true b4 b5 b6 v5 v6 v18 v19 v20) :
    o.wp Tryd.prog (fr5 a0 v5 v6 v18 v19 v20) wc (MixI N w s b a0 #[true, b1, b2, true, b4, true, b6]) Q := by
  obtain rfl := hJ.e18 rfl
  obtain ⟨g, c, rfl, hg, hb, _⟩ := hJ.e5 rfl
  exact wp_store_row 152 (.tmp 5) (.tmp 18) ho g (wordsA 64 roundsF) (fr5_e5 _ _ _ _ _ _ hsz) (fr5_e18 _ _ _ _ _ _ hsz) 152 (wordsA 64 c) hb (Tryd.size152W _) (wordsA_sizes _ _ _) (wordsA_one _ _)
    (by rw [hd]; exact ⟨true, b1, b2, true, b4, true, b6, rfl, ptr g, v6, .agg (wordsA 64 roundsF), v19, v20, put_none _ _, hJ.store5 hg hb⟩)
theorem mix_s6 {o : Oper} (ho : o.op = .store 152 (.tmp 6) (.tmp 20)) (hd : o.dst = none) (hsz : 20 < a0.tmps.size) (hJ : MixJ N w s b wc b0 b1 true b3 true b5 b6 v5 v6 v18 v19 v20) :
    o.wp Tryd.prog (fr5 a0 v5 v6 v18 v19 v20) wc (MixI N w s b a0 #[b0, b1, true, b3, true, b5, true]) Q := by
  obtain rfl := hJ.e20 rfl
  obtain ⟨g, c, rfl, hg, hb, _⟩ := hJ.e6 rfl
  exact wp_store_row 152 (.tmp 6) (.tmp 20) ho g (wordsA 64 (sched b 64)) (fr5_e6 _ _ _ _ _ _ hsz) (fr5_e20 _ _ _ _ _ _ hsz) 152 (wordsA 64 c) hb (Tryd.size152W _) (wordsA_sizes _ _ _) (wordsA_one _ _)
    (by rw [hd]; exact ⟨b0, b1, true, b3, true, b5, true, rfl, v5, ptr g, v18, v19, .agg (wordsA 64 (sched b 64)), put_none _ _, hJ.store6 hg hb⟩)
end

theorem mix_step (q : String) {N : Nat} {w : World} {s b : Nat → Int} {a0 : Act} {Q : Exit → Act → World → Prop} (hsz : 20 < a0.tmps.size) (h3 : a0.eval (.tmp 3) = ptr (N + 1))
    (l : Array Bool) (a : Act) (wc : World) (i : Nat) (o : Oper) (hI : MixI N w s b a0 l a wc) (hi : l.getD i true = false) (ho : (#[mo0 q, mo1 q, mo2 q, mo3 q, mo4 q, mo5 q, mo6 q] : Array Oper)[i]? = some o)
    (he : ∀ e ∈ o.after, Region.binds .any e = true → l.getD e.on false = true) :
    o.guard = none ∧ o.wp Tryd.prog a wc (MixI N w s b a0 (l.setIfInBounds i true)) Q := by
  obtain ⟨b0, b1, b2, b3, b4, b5, b6, rfl, v5, v6, v18, v19, v20, rfl, hJ⟩ := hI
  match i, hi, ho with
  | 0, hi, ho =>
    have e : mo0 q = o := Option.some.inj ho
    exact ⟨by rw [← e]; rfl, mix_s0 (by rw [← e]; rfl) (by rw [← e]; rfl) hJ⟩
  | 1, hi, ho =>
    have e : mo1 q = o := Option.some.inj ho
    exact ⟨by rw [← e]; rfl, mix_s1 (by rw [← e]; rfl) (by rw [← e]; rfl) h3 hJ⟩
  | 2, hi, ho =>
    have e : mo2 q = o := Option.some.inj ho
    obtain rfl : b1 = true := he ⟨1, .data⟩ (by rw [← e]; simp [mo2]) rfl
    exact ⟨by rw [← e]; rfl, mix_s2 (by rw [← e]; rfl) (by rw [← e]; rfl) hsz hJ⟩
  | 3, hi, ho =>
    have e : mo3 q = o := Option.some.inj ho
    obtain rfl : b3 = false := hi
    exact ⟨by rw [← e]; rfl, mix_s3 (by rw [← e]; rfl) (by rw [← e]; rfl) hJ⟩
  | 4, hi, ho =>
    have e : mo4 q = o := Option.some.inj ho
    obtain rfl : b4 = false := hi
    exact ⟨by rw [← e]; rfl, mix_s4 (by rw [← e]; rfl) (by rw [← e]; rfl) hJ⟩
  | 5, hi, ho =>
    have e : mo5 q = o := Option.some.inj ho
    obtain rfl : b0 = true := he ⟨0, .data⟩ (by rw [← e]; simp [mo5]) rfl
    obtain rfl : b3 = true := he ⟨3, .data⟩ (by rw [← e]; simp [mo5]) rfl
    exact ⟨by rw [← e]; rfl, mix_s5 (by rw [← e]; rfl) (by rw [← e]; rfl) hsz hJ⟩
  | 6, hi, ho =>
    have e : mo6 q = o := Option.some.inj ho
    obtain rfl : b2 = true := he ⟨2, .data⟩ (by rw [← e]; simp [mo6]) rfl
    obtain rfl : b4 = true := he ⟨4, .data⟩ (by rw [← e]; simp [mo6]) rfl
    exact ⟨by rw [← e]; rfl, mix_s6 (by rw [← e]; rfl) (by rw [← e]; rfl) hsz hJ⟩
  | n + 7, hi, ho => simp at ho

theorem mix_back (q : String) (i : Nat) (o : Oper) (ho : (#[mo0 q, mo1 q, mo2 q, mo3 q, mo4 q, mo5 q, mo6 q] : Array Oper)[i]? = some o) (e : Edge) (he : e ∈ o.after) (_ : Region.binds .any e = true) : e.on < i := by
  match i, ho with
  | 0, ho => obtain rfl : mo0 q = o := Option.some.inj ho; simp [mo0] at he
  | 1, ho => obtain rfl : mo1 q = o := Option.some.inj ho; simp [mo1] at he
  | 2, ho => obtain rfl : mo2 q = o := Option.some.inj ho; simp [mo2] at he; rcases he with rfl | rfl <;> decide
  | 3, ho => obtain rfl : mo3 q = o := Option.some.inj ho; simp [mo3] at he
  | 4, ho => obtain rfl : mo4 q = o := Option.some.inj ho; simp [mo4] at he
  | 5, ho => obtain rfl : mo5 q = o := Option.some.inj ho; simp [mo5] at he; rcases he with rfl | rfl | rfl | rfl | rfl | rfl | rfl | rfl <;> decide
  | 6, ho => obtain rfl : mo6 q = o := Option.some.inj ho; simp [mo6] at he; rcases he with rfl | rfl | rfl | rfl | rfl | rfl | rfl | rfl | rfl <;> decide
  | n + 7, ho => simp at ho

/-- The first statement of mix, in whatever order. -/
theorem mix_region1 (q : String) (N : Nat) (w w0 : World) (s b : Nat → Int) (a0 : Act) (hsz : 20 < a0.tmps.size) (h3 : a0.eval (.tmp 3) = ptr (N + 1))
    (hu : a0 = fr5 a0 undef undef undef undef undef) (hJ0 : MixJ N w s b w0.drew false false false false false false false undef undef undef undef undef)
    (Q : Exit → Act → World → Prop)
    (hQ : ∀ (g k : Nat) (v18 v19 v20 : Value) (wc : World), N + 3 ≤ g → N + 3 ≤ k → g ≠ k → Blk wc g 152 (wordsA 64 roundsF) → Blk wc k 152 (wordsA 64 (sched b 64)) →
      Blk wc N 137 (wordsA 8 s) → Blk wc (N + 1 + 1) 137 (wordsA 8 fun _ => 0) → Below N w wc → Q .normal (fr5 a0 (ptr g) (ptr k) v18 v19 v20) wc) :
    (Code.region 1 #[mo0 q, mo1 q, mo2 q, mo3 q, mo4 q, mo5 q, mo6 q] true).wp Tryd.prog Q a0 w0 := by
  refine wp_region_inv (by kernel_rfl) (MixI N w s b a0) ?_ (mix_step q hsz h3) (mix_back q) ?_ ?_
  · rintro _ _ _ ⟨b0, b1, b2, b3, b4, b5, b6, rfl, _⟩; rfl
  · rintro _ _ wc ⟨b0, b1, b2, b3, b4, b5, b6, rfl, v5, v6, v18, v19, v20, rfl, hJ⟩ hall
    have q3 : b3 = true := hall 3 (by simp)
    have q4 : b4 = true := hall 4 (by simp)
    have q5 : b5 = true := hall 5 (by simp)
    have q6 : b6 = true := hall 6 (by simp)
    obtain ⟨g, c, rfl, hg, hb, hc⟩ := hJ.e5 q3
    obtain ⟨k, d, rfl, hk, hd, hdd⟩ := hJ.e6 q4
    obtain rfl := hc q5
    obtain rfl := hdd q6
    exact hQ g k v18 v19 v20 wc hg hk (fun e => hJ.ne q3 q4 (by rw [e])) hb hd hJ.k0 hJ.k2 hJ.below
  · exact ⟨false, false, false, false, false, false, false, rfl, _, _, _, _, _, hu, hJ0⟩

end Go.Proofs.YtennogmeeefopaaDoor
namespace Go.Proofs.YtennogmeeefopaaDoor
open Go.RowKit

structure R8 where
  a : Int
  b : Int
  c : Int
  d : Int
  e : Int
  f : Int
  g : Int
  h : Int

def big1 (x : Int) : Int := bits .xor .u32 (bits .xor .u32 (rot x 6) (rot x 11)) (rot x 25)
def big0 (x : Int) : Int := bits .xor .u32 (bits .xor .u32 (rot x 2) (rot x 13)) (rot x 22)
def chF (e f g : Int) : Int := bits .xor .u32 (bits .and .u32 e f) (bits .and .u32 (bits .xor .u32 4294967295 e) g)
def majF (a b c : Int) : Int := bits .xor .u32 (bits .xor .u32 (bits .and .u32 a b) (bits .and .u32 a c)) (bits .and .u32 b c)
def uF (k w : Int) (r : R8) : Int := (r.h + big1 r.e + chF r.e r.f r.g + k + w) % 4294967296
def vF (r : R8) : Int := (big0 r.a + majF r.a r.b r.c) % 4294967296
def stepF (k w : Int) (r : R8) : R8 := ⟨(uF k w r + vF r) % 4294967296, r.a, r.b, r.c, (r.d + uF k w r) % 4294967296, r.e, r.f, r.g⟩
def runF (kk ww : Nat → Int) (r : R8) : Nat → R8
  | 0 => r
  | t + 1 => stepF (kk t) (ww t) (runF kk ww r t)
def r8 (s : Nat → Int) : R8 := ⟨s 0, s 1, s 2, s 3, s 4, s 5, s 6, s 7⟩
def outF (s : Nat → Int) (r : R8) (i : Nat) : Int :=
  [(s 0 + r.a) % 4294967296, (s 1 + r.b) % 4294967296, (s 2 + r.c) % 4294967296, (s 3 + r.d) % 4294967296, (s 4 + r.e) % 4294967296, (s 5 + r.f) % 4294967296, (s 6 + r.g) % 4294967296, (s 7 + r.h) % 4294967296].getD i 0
/-- What the words s become by a piece. -/
def mixF (s b : Nat → Int) : Nat → Int := outF s (runF roundsF (sched b 64) (r8 s) 64)
theorem u32_all : (if IntKind.u32.signed = true then -1 else IntKind.u32.max) = 4294967295 := by decide

theorem blk_drewN {w : World} {b : Nat} {T : TypeId} {cs : Array Value} (h : Blk w b T cs) (n : Nat) : Blk (w.drewN n) b T cs := by
  induction n with
  | zero => exact h
  | succ n ih => exact ih

set_option maxRecDepth 8000 in
set_option maxHeartbeats 1000000 in
theorem mix_any (s b : Nat → Int) (w : World) :
    Calls Tryd.prog 72 #[.agg (wordsA 8 s), .agg (bytesA 64 b)] w fun e w' => e = .returned (.agg (wordsA 8 (mixF s b))) ∧ Below w.heap.size w w' := by
  go_enter Tryd.func72, Tryd.ntmps72
  go_wp2_with (first | (refine wpList_boxA rfl 137 (.tmp 0) rfl (wordsA 8 s) rfl ?_; refine wpList_boxA rfl 139 (.tmp 1) rfl (bytesA 64 b) rfl ?_) | (refine wpList_new rfl 137 rfl _ Tryd.new137 ?_))
  have hB : Below w.heap.size w (((w.alloc (.cells (wordsA 8 s) 137)).alloc (.cells (bytesA 64 b) 139)).alloc (.cells (wordsA 8 fun _ => 0) 137)) :=
    (((Below.refl _ _).alloc (Nat.le_refl _) _).alloc (by simp) _).alloc (by simp; omega) _
  have hJ : MixJ w.heap.size w s b (((w.alloc (.cells (wordsA 8 s) 137)).alloc (.cells (bytesA 64 b) 139)).alloc (.cells (wordsA 8 fun _ => 0) 137)).drew false false false false false false false undef undef undef undef undef :=
    { below := hB.drew, hN := by simp [World.drew],
      k0 := (((Blk.new w 137 (wordsA 8 s)).alloc _).alloc _).drew
      k1 := by simpa using ((Blk.new (w.alloc (.cells (wordsA 8 s) 137)) 139 (bytesA 64 b)).alloc (.cells (wordsA 8 fun _ => 0) 137)).drew
      k2 := by simpa using (Blk.new ((w.alloc (.cells (wordsA 8 s) 137)).alloc (.cells (bytesA 64 b) 139)) 137 (wordsA 8 fun _ => 0)).drew
      e18 := fun h => by simp at h, e19 := fun h => by simp at h, e20 := fun h => by simp at h, e5 := fun h => by simp at h, e6 := fun h => by simp at h, ne := fun h => by simp at h, w5 := fun h => by simp at h, w6 := fun h => by simp at h }
  clear hB
  generalize (((w.alloc (.cells (wordsA 8 s) 137)).alloc (.cells (bytesA 64 b) 139)).alloc (.cells (wordsA 8 fun _ => 0) 137)) = w0 at *
  simp only [Act.put, List.setIfInBounds_toArray, List.set_cons_succ, List.set_cons_zero, World.size_alloc]
  refine mix_region1 _ w.heap.size w w0 s b _ (by simp) rfl rfl hJ _ ?_
  intro g k v18 v19 v20 wc hg hk hgk hG hK hS hR hB
  simp only [fr5, Act.put, List.setIfInBounds_toArray, List.set_cons_succ, List.set_cons_zero]
  clear hJ
  have s0 : wc.cell? ⟨w.heap.size, 0, none⟩ = some (.int .u32 (s 0)) := by rw [hS.cell, wordsA_get _ _ _ (by omega)]
  have s1 : wc.cell? ⟨w.heap.size, 1, none⟩ = some (.int .u32 (s 1)) := by rw [hS.cell, wordsA_get _ _ _ (by omega)]
  have s2 : wc.cell? ⟨w.heap.size, 2, none⟩ = some (.int .u32 (s 2)) := by rw [hS.cell, wordsA_get _ _ _ (by omega)]
  have s3 : wc.cell? ⟨w.heap.size, 3, none⟩ = some (.int .u32 (s 3)) := by rw [hS.cell, wordsA_get _ _ _ (by omega)]
  have s4 : wc.cell? ⟨w.heap.size, 4, none⟩ = some (.int .u32 (s 4)) := by rw [hS.cell, wordsA_get _ _ _ (by omega)]
  have s5 : wc.cell? ⟨w.heap.size, 5, none⟩ = some (.int .u32 (s 5)) := by rw [hS.cell, wordsA_get _ _ _ (by omega)]
  have s6 : wc.cell? ⟨w.heap.size, 6, none⟩ = some (.int .u32 (s 6)) := by rw [hS.cell, wordsA_get _ _ _ (by omega)]
  have s7 : wc.cell? ⟨w.heap.size, 7, none⟩ = some (.int .u32 (s 7)) := by rw [hS.cell, wordsA_get _ _ _ (by omega)]
  go_wp2
  go_quiet (fail)
  go_wp2
  clear s0 s1 s2 s3 s4 s5 s6 s7
  have hG0 := blk_drewN hG nq
  have hK0 := blk_drewN hK nq
  have hS0 := blk_drewN hS nq
  have hR0 := blk_drewN hR nq
  have hB0 : Below w.heap.size w (wc.drewN nq) := below_drewN hB nq
  go_loopw [7, 8, 9, 10, 11, 12, 13, 14, 37] (fun xa xb xc xd xe xf xg xh i wr => ∃ t : Nat, t ≤ 64 ∧ i = .int .i64 t ∧
      xa = .int .u32 (runF roundsF (sched b 64) (r8 s) t).a ∧ xb = .int .u32 (runF roundsF (sched b 64) (r8 s) t).b ∧ xc = .int .u32 (runF roundsF (sched b 64) (r8 s) t).c ∧ xd = .int .u32 (runF roundsF (sched b 64) (r8 s) t).d ∧
      xe = .int .u32 (runF roundsF (sched b 64) (r8 s) t).e ∧ xf = .int .u32 (runF roundsF (sched b 64) (r8 s) t).f ∧ xg = .int .u32 (runF roundsF (sched b 64) (r8 s) t).g ∧ xh = .int .u32 (runF roundsF (sched b 64) (r8 s) t).h ∧
      Blk wr g 152 (wordsA 64 roundsF) ∧ Blk wr k 152 (wordsA 64 (sched b 64)) ∧ Blk wr w.heap.size 137 (wordsA 8 s) ∧ Blk wr (w.heap.size + 1 + 1) 137 (wordsA 8 fun _ => 0) ∧ Below w.heap.size w wr) (fun _ _ _ _ _ _ _ _ i _ => 64 - (intOf i).toNat)
  case atStart => exact ⟨0, by omega, rfl, rfl, rfl, rfl, rfl, rfl, rfl, rfl, rfl, hG0, hK0, hS0, hR0, hB0⟩
  case round =>
    clear hG0 hK0 hS0 hR0 hB0 hG hK hS hR hB
    obtain ⟨t, ht, rfl, rfl, rfl, rfl, rfl, rfl, rfl, rfl, rfl, hG, hK, hS, hR, hB⟩ := hrel
    obtain ⟨r, hr⟩ : ∃ r, Hid (r = runF roundsF (sched b 64) (r8 s) t) := ⟨_, rfl⟩
    rw [← hr.out]
    obtain ⟨ra, rb, rc, rd, re, rf, rg, rh⟩ := r
    dsimp only
    by_cases hlt : t < 64
    · have eg : wr.cell? ⟨g, t, none⟩ = some (.int .u32 (roundsF t)) := by rw [hG.cell, wordsA_get _ _ _ (by omega)]
      have ek : wr.cell? ⟨k, t, none⟩ = some (.int .u32 (sched b 64 t)) := by rw [hK.cell, wordsA_get _ _ _ (by omega)]
      obtain ⟨kt, hkt⟩ : ∃ kt, Hid (kt = roundsF t) := ⟨_, rfl⟩
      obtain ⟨wt, hwt⟩ : ∃ wt, Hid (wt = sched b 64 t) := ⟨_, rfl⟩
      rw [← hkt.out] at eg
      rw [← hwt.out] at ek
      go_wp2
      go_quiet ((go_at_call 83; exact Calls.quiet_of_same (turn_any _ _ _ (by omega) (by omega))))
      go_wp2_with (go_at_call 83; refine (turn_any _ _ _ (by omega) (by omega)).mono ?_; rintro e w' ⟨rfl, rfl⟩)
      go_roundw
      case rel =>
        have hn : runF roundsF (sched b 64) (r8 s) (t + 1) = stepF kt wt ⟨ra, rb, rc, rd, re, rf, rg, rh⟩ := by rw [hkt.out, hwt.out, hr.out]; rfl
        simp only [u32_all]
        exact ⟨t + 1, by omega, by go_num, by rw [hn]; rfl, by rw [hn]; rfl, by rw [hn]; rfl, by rw [hn]; rfl, by rw [hn]; rfl, by rw [hn]; rfl, by rw [hn]; rfl, by rw [hn]; rfl, blk_drewN hG _, blk_drewN hK _, blk_drewN hS _, blk_drewN hR _, below_drewN hB _⟩
      case measure => simp [intOf]; omega
    · obtain rfl : t = 64 := by omega
      clear hlt ht
      have s0 : wr.cell? ⟨w.heap.size, 0, none⟩ = some (.int .u32 (s 0)) := by rw [hS.cell, wordsA_get _ _ _ (by omega)]
      have s1 : wr.cell? ⟨w.heap.size, 1, none⟩ = some (.int .u32 (s 1)) := by rw [hS.cell, wordsA_get _ _ _ (by omega)]
      have s2 : wr.cell? ⟨w.heap.size, 2, none⟩ = some (.int .u32 (s 2)) := by rw [hS.cell, wordsA_get _ _ _ (by omega)]
      have s3 : wr.cell? ⟨w.heap.size, 3, none⟩ = some (.int .u32 (s 3)) := by rw [hS.cell, wordsA_get _ _ _ (by omega)]
      have s4 : wr.cell? ⟨w.heap.size, 4, none⟩ = some (.int .u32 (s 4)) := by rw [hS.cell, wordsA_get _ _ _ (by omega)]
      have s5 : wr.cell? ⟨w.heap.size, 5, none⟩ = some (.int .u32 (s 5)) := by rw [hS.cell, wordsA_get _ _ _ (by omega)]
      have s6 : wr.cell? ⟨w.heap.size, 6, none⟩ = some (.int .u32 (s 6)) := by rw [hS.cell, wordsA_get _ _ _ (by omega)]
      have s7 : wr.cell? ⟨w.heap.size, 7, none⟩ = some (.int .u32 (s 7)) := by rw [hS.cell, wordsA_get _ _ _ (by omega)]
      have hfin : Hid (mixF s b = outF s ⟨ra, rb, rc, rd, re, rf, rg, rh⟩) := by show mixF s b = _; rw [hr.out]; rfl
      clear hr
      go_wp2_with (refine wpList_bld rfl 137 _ rfl (wordsA 8 (outF s ⟨ra, rb, rc, rd, re, rf, rg, rh⟩)) (by kernel_rfl) ?_; refine wpList_store_row rfl 137 (.tmp 4) (.tmp 132) rfl (w.heap.size + 1 + 1) (wordsA 8 (outF s ⟨ra, rb, rc, rd, re, rf, rg, rh⟩)) rfl rfl 137 (wordsA 8 fun _ => 0) hR (Tryd.size137W _) (wordsA_sizes _ _ _) (wordsA_one _ _) ?_)
      exact bodyPost_ret (v := .agg (wordsA 8 (outF s ⟨ra, rb, rc, rd, re, rf, rg, rh⟩))) (results_cell_row Tryd.results72 _ _ (w.heap.size + 1 + 1) 137 _ (0, 0) _ rfl (hR.setRow _) Tryd.underlying137 rfl (Tryd.size137W _)) rfl ⟨by rw [hfin.out], below_setRow hB (by omega) _⟩
end Go.Proofs.YtennogmeeefopaaDoor
namespace Go.Proofs.YtennogmeeefopaaDoor
open Go.RowKit

/-- The cells of a Digest: the words, the rest, the number of bytes. -/
def digA (s r : Nat → Int) (n : Int) : Array Value := Array.ofFn (n := 73) fun i => if i.val < 8 then .int .u32 (s i.val) else if i.val < 72 then .int .u8 (r (i.val - 8)) else .int .i64 n

theorem digA_size (s r : Nat → Int) (n : Int) : (digA s r n).size = 73 := by simp [digA]
theorem digA_w (s r : Nat → Int) (n : Int) (j : Nat) (h : j < 8) : (digA s r n)[j]? = some (.int .u32 (s j)) := by
  have h' : j < 73 := by omega
  simp [digA, h, h']
theorem digA_r (s r : Nat → Int) (n : Int) (j : Nat) (h : j < 64) : (digA s r n)[8 + j]? = some (.int .u8 (r j)) := by
  have h1 : ¬ 8 + j < 8 := by omega
  have h2 : 8 + j < 72 := by omega
  have h' : 8 + j < 73 := by omega
  simp [digA, h2, h']
theorem digA_n (s r : Nat → Int) (n : Int) : (digA s r n)[72]? = some (.int .i64 n) := by simp [digA]
theorem digA_setn (s r : Nat → Int) (n m : Int) : (digA s r n).setIfInBounds 72 (.int .i64 m) = digA s r m := by
  apply Array.ext_getElem?
  intro i
  rw [Array.getElem?_setIfInBounds]
  by_cases e : 72 = i
  · subst e; simp [digA]
  · by_cases hi : i < 73
    · have : i < 72 := by omega
      simp [digA, e, hi, this]
    · simp [digA, e, hi]
theorem digA_one (s r : Nat → Int) (n : Int) : (digA s r n).all (·.oneCell') = true := by
  rw [Array.all_eq_true_iff_forall_mem]; intro v hv; simp [digA] at hv; obtain ⟨i, rfl⟩ := hv; split <;> (try split) <;> rfl

/-- y laid over r from u on, k of them. -/
def putN (r : Nat → Int) (u k : Nat) (y : Nat → Int) : Nat → Int := fun j => if u ≤ j ∧ j < u + k then y (j - u) else r j
theorem digA_splice (s r : Nat → Int) (n : Int) (u k : Nat) (y : Nat → Int) (h : u + k ≤ 64) :
    ((digA s r n).toList.take (8 + u) ++ ((List.range k).map (fun j => Value.int .u8 (y j)) ++ (digA s r n).toList.drop (8 + u + k))).toArray = digA s (putN r u k y) n := by
  have hl : (digA s r n).toList.length = 73 := by simp [digA_size]
  apply Array.ext_getElem?
  intro i
  rw [List.getElem?_toArray, List.getElem?_append, List.length_take, hl, show min (8 + u) 73 = 8 + u by omega]
  by_cases h1 : i < 8 + u
  · rw [if_pos h1, List.getElem?_take, if_pos h1, Array.getElem?_toList]
    have hi : i < 73 := by omega
    by_cases h8 : i < 8
    · rw [digA_w _ _ _ _ h8, digA_w _ _ _ _ h8]
    · obtain ⟨j, rfl⟩ : ∃ j, i = 8 + j := ⟨i - 8, by omega⟩
      rw [digA_r _ _ _ _ (by omega), digA_r _ _ _ _ (by omega)]
      simp only [putN]; rw [if_neg (by omega)]
  · rw [if_neg h1, List.getElem?_append, List.length_map, List.length_range]
    by_cases h2 : i - (8 + u) < k
    · rw [if_pos h2, List.getElem?_map, List.getElem?_range h2]
      obtain ⟨j, rfl⟩ : ∃ j, i = 8 + j := ⟨i - 8, by omega⟩
      rw [digA_r _ _ _ _ (by omega)]
      simp only [putN, Option.map_some]; rw [if_pos (by omega), show 8 + j - (8 + u) = j - u by omega]
    · rw [if_neg h2, List.getElem?_drop, Array.getElem?_toList, show 8 + u + k + (i - (8 + u) - k) = i by omega]
      by_cases h72 : i < 72
      · obtain ⟨j, rfl⟩ : ∃ j, i = 8 + j := ⟨i - 8, by omega⟩
        rw [digA_r _ _ _ _ (by omega), digA_r _ _ _ _ (by omega)]
        simp only [putN]; rw [if_neg (by omega)]
      · by_cases h73 : i = 72
        · subst h73; rw [digA_n, digA_n]
        · rw [Array.getElem?_eq_none (by rw [digA_size]; omega), Array.getElem?_eq_none (by rw [digA_size]; omega)]

theorem Tryd.size141 : (Tryd.prog.info? 141).map (·.size) = some 73 := by kernel_rfl
theorem Tryd.size141D (s r : Nat → Int) (n : Int) : (Tryd.prog.info? 141).map (·.size) = some (digA s r n).size := by rw [digA_size]; exact Tryd.size141

set_option maxRecDepth 10000 in
theorem new_any (w : World) :
    Calls Tryd.prog 62 #[] w fun e w' => e = .returned (ptr (w.heap.size + 1)) ∧ w' = (w.alloc (.cells (wordsA 8 beginF) 137)).alloc (.cells (digA beginF (fun _ => 0) 0) 141) := by
  go_enter Tryd.func62, Tryd.ntmps62
  go_wp2_with fail
  refine (begin_any _).mono ?_
  rintro e w' ⟨rfl, rfl⟩
  go_wp2_with (refine wpList_bld rfl 141 _ rfl (digA beginF (fun _ => 0) 0) (by kernel_rfl) ?_; refine wpList_boxA rfl 141 (.tmp 2) rfl (digA beginF (fun _ => 0) 0) rfl ?_)
  go_ret
  exact ⟨by simp, rfl⟩

end Go.Proofs.YtennogmeeefopaaDoor
namespace Go.Proofs.YtennogmeeefopaaDoor
open Go.RowKit

def wo0 (q : String) : Oper := { dst := some 36, op := Op.move (Operand.tmp 0), type := 126, pos := q, after := #[], guard := none }
def wo1 (q : String) : Oper := { dst := some 37, op := Op.move (Operand.tmp 0), type := 126, pos := q, after := #[], guard := none }
def wo2 (q : String) : Oper := { dst := some 38, op := Op.nilCheck (Operand.tmp 37), type := 0, pos := q, after := #[{ on := 1, ground := Ground.data }], guard := none }
def wo3 (q : String) : Oper := { dst := some 39, op := Op.fieldAddr 141 (Operand.tmp 38) 0, type := 0, pos := q, after := #[{ on := 2, ground := Ground.data }], guard := none }
def wo4 (q : String) : Oper := { dst := some 40, op := Op.load 137 (Operand.tmp 39), type := 137, pos := q, after := #[{ on := 3, ground := Ground.data }], guard := none }
def wo5 (q : String) : Oper := { dst := some 41, op := Op.move (Operand.tmp 0), type := 126, pos := q, after := #[], guard := none }
def wo6 (q : String) : Oper := { dst := some 42, op := Op.nilCheck (Operand.tmp 41), type := 0, pos := q, after := #[{ on := 5, ground := Ground.data }], guard := none }
def wo7 (q : String) : Oper := { dst := some 43, op := Op.fieldAddr 141 (Operand.tmp 42) 1, type := 0, pos := q, after := #[{ on := 6, ground := Ground.data }], guard := none }
def wo8 (q : String) : Oper := { dst := some 44, op := Op.load 139 (Operand.tmp 43), type := 139, pos := q, after := #[{ on := 7, ground := Ground.data }], guard := none }
def wo9 (q : String) : Oper := { dst := some 45, op := Op.call { callee := Callee.value (Operand.func 72), args := #[Operand.tmp 40, Operand.tmp 44], argTypes := #[137, 139] }, type := 137, pos := q, after := #[{ on := 4, ground := Ground.data }, { on := 8, ground := Ground.data }], guard := none }
def wo10 (q : String) : Oper := { dst := some 46, op := Op.nilCheck (Operand.tmp 36), type := 0, pos := q, after := #[{ on := 0, ground := Ground.data }, { on := 0, ground := Ground.phase }, { on := 1, ground := Ground.phase }, { on := 2, ground := Ground.phase }, { on := 3, ground := Ground.phase }, { on := 4, ground := Ground.phase }, { on := 5, ground := Ground.phase }, { on := 6, ground := Ground.phase }, { on := 7, ground := Ground.phase }, { on := 8, ground := Ground.phase }, { on := 9, ground := Ground.phase }], guard := none }
def wo11 (q : String) : Oper := { dst := some 47, op := Op.fieldAddr 141 (Operand.tmp 46) 0, type := 0, pos := q, after := #[{ on := 10, ground := Ground.data }, { on := 0, ground := Ground.phase }, { on := 1, ground := Ground.phase }, { on := 2, ground := Ground.phase }, { on := 3, ground := Ground.phase }, { on := 4, ground := Ground.phase }, { on := 5, ground := Ground.phase }, { on := 6, ground := Ground.phase }, { on := 7, ground := Ground.phase }, { on := 8, ground := Ground.phase }, { on := 9, ground := Ground.phase }], guard := none }
def wo12 (q : String) : Oper := { dst := none, op := Op.store 137 (Operand.tmp 47) (Operand.tmp 45), type := 0, pos := q, after := #[{ on := 11, ground := Ground.data }, { on := 9, ground := Ground.data }, { on := 9, ground := Ground.chain }, { on := 0, ground := Ground.phase }, { on := 1, ground := Ground.phase }, { on := 2, ground := Ground.phase }, { on := 3, ground := Ground.phase }, { on := 4, ground := Ground.phase }, { on := 5, ground := Ground.phase }, { on := 6, ground := Ground.phase }, { on := 7, ground := Ground.phase }, { on := 8, ground := Ground.phase }, { on := 9, ground := Ground.phase }], guard := none }
def woA (q : String) : Array Oper := #[wo0 q, wo1 q, wo2 q, wo3 q, wo4 q, wo5 q, wo6 q, wo7 q, wo8 q, wo9 q, wo10 q, wo11 q, wo12 q]
theorem Tryd.enter72 (w : World) (vs : Array Value) : (callFunc 72 vs).run Tryd.prog w = .ok (.enter 72 vs) w := by kernel_rfl
theorem Tryd.field67_0 (g : Nat) (w : World) : (Instr.fieldAt 141 (ptr g) 0).run Tryd.prog w = .ok (ptr g) w := by kernel_rfl
theorem Tryd.field67_1 (g : Nat) (w : World) : (Instr.fieldAt 141 (ptr g) 1).run Tryd.prog w = .ok (.pointer (some ⟨g, 8, none⟩)) w := by kernel_rfl

def woV (g : Nat) (s p : Nat → Int) : Nat → Value
  | 4 => .agg (wordsA 8 s)
  | 7 => .pointer (some ⟨g, 8, none⟩)
  | 8 => .agg (bytesA 64 p)
  | 9 => .agg (wordsA 8 (mixF s p))
  | 12 => undef
  | _ => ptr g
structure WoW (g : Nat) (w0 : World) (s p : Nat → Int) (m : Int) (l : Array Bool) (w : World) : Prop where
  gr : w0.grownBy w (some g)
  a : l.getD 12 false = false → Blk w g 141 (digA s p m)
  b : l.getD 12 false = true → Blk w g 141 (digA (mixF s p) p m)
  c : l.getD 12 false = true → l.getD 4 false = true ∧ l.getD 8 false = true

theorem digA_words (s p c : Nat → Int) (m : Int) : ((digA s p m).toList.take 0 ++ (wordsA 8 c).toList ++ (digA s p m).toList.drop (0 + (wordsA 8 c).size)).toArray = digA c p m := by
  have hl : (digA s p m).toList.length = 73 := by simp [digA_size]
  apply Array.ext_getElem?
  intro i
  rw [wordsA_size, List.take_zero, List.nil_append, List.getElem?_toArray, List.getElem?_append, Array.length_toList, wordsA_size]
  by_cases h8 : i < 8
  · rw [if_pos h8, Array.getElem?_toList, wordsA_get _ _ _ h8, digA_w _ _ _ _ h8]
  · rw [if_neg h8, List.getElem?_drop, Array.getElem?_toList, show 0 + 8 + (i - 8) = i by omega]
    by_cases h72 : i < 72
    · obtain ⟨j, rfl⟩ : ∃ j, i = 8 + j := ⟨i - 8, by omega⟩
      rw [digA_r _ _ _ _ (by omega), digA_r _ _ _ _ (by omega)]
    · by_cases h73 : i = 72
      · subst h73; rw [digA_n, digA_n]
      · rw [Array.getElem?_eq_none (by rw [digA_size]; omega), Array.getElem?_eq_none (by rw [digA_size]; omega)]
theorem dig_range8 {w : World} {g : Nat} {s p : Nat → Int} {m : Int} (h : Blk w g 141 (digA s p m)) : w.rangeAt g 8 (bytesA 64 p).toList := by
  intro j v hv
  have hj : j < 64 := by have := (List.getElem?_eq_some_iff.1 hv).1; simpa [bytesA_size] using this
  rw [h.cell, digA_r _ _ _ _ hj, ← hv, Array.getElem?_toList, bytesA_get _ _ _ hj]
theorem dig_range0 {w : World} {g : Nat} {s p : Nat → Int} {m : Int} (h : Blk w g 141 (digA s p m)) : w.rangeAt g 0 (wordsA 8 s).toList := by
  intro j v hv
  have hj : j < 8 := by have := (List.getElem?_eq_some_iff.1 hv).1; simpa [wordsA_size] using this
  rw [Nat.zero_add, h.cell, digA_w _ _ _ _ hj, ← hv, Array.getElem?_toList, wordsA_get _ _ _ hj]
theorem grownBy_trans {a b c : World} {o : Option Nat} (h : a.grownBy b o) (k : b.grownBy c o) : a.grownBy c o :=
  ⟨k.os.trans h.os, k.tape.trans h.tape, k.output.trans h.output, Nat.le_trans h.size k.size, fun i hi hn => (k.block i (Nat.lt_of_lt_of_le hi h.size) hn).trans (h.block i hi hn)⟩
theorem WoW.next {g : Nat} {w0 w w' : World} {s p : Nat → Int} {m : Int} {l : Array Bool} (h : WoW g w0 s p m l w) (hb : Below w.heap.size w w') (i : Nat) (hi : i ≠ 12) : WoW g w0 s p m (l.setIfInBounds i true) w' where
  gr := grownBy_trans h.gr (grownBy_below hb _)
  a e := by rw [getD_set_ne false hi] at e; exact (h.a e).below hb (h.a e).lt
  b e := by rw [getD_set_ne false hi] at e; exact (h.b e).below hb (h.b e).lt
  c e := by rw [getD_set_ne false hi] at e; exact ⟨getD_set_true (h.c e).1, getD_set_true (h.c e).2⟩
theorem getD_ft {l : Array Bool} {i : Nat} (h : l.getD i true = false) : l.getD i false = false := by
  obtain ⟨h1, h2⟩ := getD_lt h
  simp [Array.getD, h1, h2]

set_option maxRecDepth 8000 in
set_option maxHeartbeats 1000000 in
theorem wo_step (q : String) (g : Nat) (w0 : World) (s p : Nat → Int) (m : Int) (a0 : Act) (h0 : a0.eval (.tmp 0) = ptr g) (Q : Exit → Act → World → Prop)
    (l : Array Bool) (a : Act) (w : World) (i : Nat) (o : Oper)
    (hold : ∀ t : Nat, (∀ (j : Nat) (o' : Oper), (woA q)[j]? = some o' → o'.dst ≠ some t) → a.eval (.tmp t) = a0.eval (.tmp t))
    (hval : ∀ (j : Nat) (o' : Oper) (d : Nat), (woA q)[j]? = some o' → o'.dst = some d → l.getD j false = true → a.eval (.tmp d) = woV g s p j)
    (hW : WoW g w0 s p m l w) (_ : l.size = (woA q).size) (hi : l.getD i true = false) (ho : (woA q)[i]? = some o) (he : ∀ e ∈ o.after, Region.binds .any e = true → l.getD e.on false = true) :
    o.guard = none ∧ o.wp Tryd.prog a w (fun a' w' => a' = a.put o.dst (woV g s p i) ∧ WoW g w0 s p m (l.setIfInBounds i true) w') Q := by
  have a0e : a.eval (.tmp 0) = ptr g := by
    rw [hold 0 ?_, h0]
    intro j o' hj
    have : ∀ j : Fin 13, ((woA q)[j.val]?.bind (·.dst)) ≠ some 0 := by
      have h : ∀ j : Fin 13, ((woA (String.ofList []))[j.val]?.bind (·.dst)) ≠ some 0 := by decide
      intro j
      have e : ((woA q)[j.val]?.bind (·.dst)) = ((woA (String.ofList []))[j.val]?.bind (·.dst)) := by
        match j with
        | ⟨0, _⟩ => rfl
        | ⟨1, _⟩ => rfl
        | ⟨2, _⟩ => rfl
        | ⟨3, _⟩ => rfl
        | ⟨4, _⟩ => rfl
        | ⟨5, _⟩ => rfl
        | ⟨6, _⟩ => rfl
        | ⟨7, _⟩ => rfl
        | ⟨8, _⟩ => rfl
        | ⟨9, _⟩ => rfl
        | ⟨10, _⟩ => rfl
        | ⟨11, _⟩ => rfl
        | ⟨12, _⟩ => rfl
      rw [e]; exact h j
    have hlt : j < 13 := (Array.getElem?_eq_some_iff.1 hj).1
    have := this ⟨j, hlt⟩
    rw [hj] at this; exact this
  have v := fun (j d : Nat) (o' : Oper) (h1 : (woA q)[j]? = some o') (h2 : o'.dst = some d) (h3 : l.getD j false = true) => hval j o' d h1 h2 h3
  match i, hi, ho with
  | 0, hi, ho =>
    have e : wo0 q = o := Option.some.inj ho
    exact ⟨by rw [← e]; rfl, wp_move (.tmp 0) (by rw [← e]; rfl) (ptr g) a0e ⟨rfl, hW.next (Below.refl _ _) 0 (by decide)⟩⟩
  | 1, hi, ho =>
    have e : wo1 q = o := Option.some.inj ho
    exact ⟨by rw [← e]; rfl, wp_move (.tmp 0) (by rw [← e]; rfl) (ptr g) a0e ⟨rfl, hW.next (Below.refl _ _) 1 (by decide)⟩⟩
  | 2, hi, ho =>
    have e : wo2 q = o := Option.some.inj ho
    have qq := v 1 37 (wo1 q) rfl rfl (he ⟨1, .data⟩ (by rw [← e]; simp [wo2]) rfl)
    exact ⟨by rw [← e]; rfl, wp_nilCheck (.tmp 37) (by rw [← e]; rfl) ⟨g, 0, none⟩ qq ⟨rfl, hW.next (Below.refl _ _) 2 (by decide)⟩⟩
  | 3, hi, ho =>
    have e : wo3 q = o := Option.some.inj ho
    have qq := v 2 38 (wo2 q) rfl rfl (he ⟨2, .data⟩ (by rw [← e]; simp [wo3]) rfl)
    exact ⟨by rw [← e]; rfl, wp_fieldAddr 141 (.tmp 38) 0 (by rw [← e]; rfl) (ptr g) (ptr g) qq (Tryd.field67_0 g) ⟨rfl, hW.next (Below.refl _ _) 3 (by decide)⟩⟩
  | 4, hi, ho =>
    have e : wo4 q = o := Option.some.inj ho
    have qq := v 3 39 (wo3 q) rfl rfl (he ⟨3, .data⟩ (by rw [← e]; simp [wo4]) rfl)
    have hb : Blk w g 141 (digA s p m) := hW.a (by
      cases h : l.getD 12 false with
      | false => rfl
      | true => have := (hW.c h).1; rw [getD_ft hi] at this; cases this)
    refine ⟨by rw [← e]; rfl, wp_load_mid 137 (.tmp 39) (by rw [← e]; rfl) g 0 qq (wordsA 8 s).toList (.array 8 111) (dig_range0 hb) Tryd.underlying137 rfl (by rw [Array.length_toList]; exact Tryd.size137W s) ?_⟩
    rw [Array.toArray_toList]
    exact ⟨rfl, hW.next (Below.refl _ _) 4 (by decide)⟩
  | 5, hi, ho =>
    have e : wo5 q = o := Option.some.inj ho
    exact ⟨by rw [← e]; rfl, wp_move (.tmp 0) (by rw [← e]; rfl) (ptr g) a0e ⟨rfl, hW.next (Below.refl _ _) 5 (by decide)⟩⟩
  | 6, hi, ho =>
    have e : wo6 q = o := Option.some.inj ho
    have qq := v 5 41 (wo5 q) rfl rfl (he ⟨5, .data⟩ (by rw [← e]; simp [wo6]) rfl)
    exact ⟨by rw [← e]; rfl, wp_nilCheck (.tmp 41) (by rw [← e]; rfl) ⟨g, 0, none⟩ qq ⟨rfl, hW.next (Below.refl _ _) 6 (by decide)⟩⟩
  | 7, hi, ho =>
    have e : wo7 q = o := Option.some.inj ho
    have qq := v 6 42 (wo6 q) rfl rfl (he ⟨6, .data⟩ (by rw [← e]; simp [wo7]) rfl)
    exact ⟨by rw [← e]; rfl, wp_fieldAddr 141 (.tmp 42) 1 (by rw [← e]; rfl) (ptr g) (.pointer (some ⟨g, 8, none⟩)) qq (Tryd.field67_1 g) ⟨rfl, hW.next (Below.refl _ _) 7 (by decide)⟩⟩
  | 8, hi, ho =>
    have e : wo8 q = o := Option.some.inj ho
    have qq := v 7 43 (wo7 q) rfl rfl (he ⟨7, .data⟩ (by rw [← e]; simp [wo8]) rfl)
    have hb : Blk w g 141 (digA s p m) := hW.a (by
      cases h : l.getD 12 false with
      | false => rfl
      | true => have := (hW.c h).2; rw [getD_ft hi] at this; cases this)
    refine ⟨by rw [← e]; rfl, wp_load_mid 139 (.tmp 43) (by rw [← e]; rfl) g 8 qq (bytesA 64 p).toList (.array 64 5) (dig_range8 hb) Tryd.underlying139 rfl (by rw [Array.length_toList]; exact Tryd.size139B p) ?_⟩
    rw [Array.toArray_toList]
    exact ⟨rfl, hW.next (Below.refl _ _) 8 (by decide)⟩
  | 9, hi, ho =>
    have e : wo9 q = o := Option.some.inj ho
    have q1 : a.eval (.tmp 40) = .agg (wordsA 8 s) := v 4 40 (wo4 q) rfl rfl (he ⟨4, .data⟩ (by rw [← e]; simp [wo9]) rfl)
    have q2 : a.eval (.tmp 44) = .agg (bytesA 64 p) := v 8 44 (wo8 q) rfl rfl (he ⟨8, .data⟩ (by rw [← e]; simp [wo9]) rfl)
    exact ⟨by rw [← e]; rfl, wp_callF 72 #[.tmp 40, .tmp 44] #[137, 139] (by rw [← e]; rfl) Tryd.enter72 #[.agg (wordsA 8 s), .agg (bytesA 64 p)] (by simp only [List.map_toArray, List.map_cons, List.map_nil, q1, q2])
      (fun v w' => v = .agg (wordsA 8 (mixF s p)) ∧ Below w.heap.size w w') ((mix_any s p w).mono (by rintro e w' ⟨rfl, hb⟩; exact ⟨_, rfl, rfl, hb⟩))
      (by rintro v w' ⟨rfl, hb⟩; exact ⟨rfl, hW.next hb 9 (by decide)⟩)⟩
  | 10, hi, ho =>
    have e : wo10 q = o := Option.some.inj ho
    have qq := v 0 36 (wo0 q) rfl rfl (he ⟨0, .data⟩ (by rw [← e]; simp [wo10]) rfl)
    exact ⟨by rw [← e]; rfl, wp_nilCheck (.tmp 36) (by rw [← e]; rfl) ⟨g, 0, none⟩ qq ⟨rfl, hW.next (Below.refl _ _) 10 (by decide)⟩⟩
  | 11, hi, ho =>
    have e : wo11 q = o := Option.some.inj ho
    have qq := v 10 46 (wo10 q) rfl rfl (he ⟨10, .data⟩ (by rw [← e]; simp [wo11]) rfl)
    exact ⟨by rw [← e]; rfl, wp_fieldAddr 141 (.tmp 46) 0 (by rw [← e]; rfl) (ptr g) (ptr g) qq (Tryd.field67_0 g) ⟨rfl, hW.next (Below.refl _ _) 11 (by decide)⟩⟩
  | 12, hi, ho =>
    have e : wo12 q = o := Option.some.inj ho
    have q1 := v 11 47 (wo11 q) rfl rfl (he ⟨11, .data⟩ (by rw [← e]; simp [wo12]) rfl)
    have q2 : a.eval (.tmp 45) = .agg (wordsA 8 (mixF s p)) := v 9 45 (wo9 q) rfl rfl (he ⟨9, .data⟩ (by rw [← e]; simp [wo12]) rfl)
    have l4 := he ⟨4, .phase⟩ (by rw [← e]; simp [wo12]) rfl
    have l8 := he ⟨8, .phase⟩ (by rw [← e]; simp [wo12]) rfl
    have hb := hW.a (getD_ft hi)
    refine ⟨by rw [← e]; rfl, wp_store_part 137 (.tmp 47) (.tmp 45) (by rw [← e]; rfl) g 0 (wordsA 8 (mixF s p)) q1 q2 141 (digA s p m) hb (Tryd.size137W _) (by rw [wordsA_size, digA_size]; omega) (wordsA_one _ _) ?_⟩
    rw [digA_words]
    have h12 : (l.setIfInBounds 12 true).getD 12 false = true := by
      obtain ⟨h1, _⟩ := getD_lt hi
      simp [Array.getD, h1]
    exact ⟨rfl, { gr := grownBy_trans hW.gr (grownBy_setRow _ _ _), a := fun e => (by rw [h12] at e; cases e), b := fun _ => Blk.setRow hb _, c := fun _ => ⟨getD_set_true l4, getD_set_true l8⟩ }⟩
  | n + 13, hi, ho => simp [woA] at ho

theorem putsTo_wo (q : String) (g : Nat) (s p : Nat → Int) (a0 : Act) : putsTo (woA q) (woV g s p) a0 13 =
    ((((((((((((a0.put (some 36) (ptr g)).put (some 37) (ptr g)).put (some 38) (ptr g)).put (some 39) (ptr g)).put (some 40) (.agg (wordsA 8 s))).put (some 41) (ptr g)).put (some 42) (ptr g)).put (some 43) (.pointer (some ⟨g, 8, none⟩))).put (some 44) (.agg (bytesA 64 p))).put (some 45) (.agg (wordsA 8 (mixF s p)))).put (some 46) (ptr g)).put (some 47) (ptr g)) := by kernel_rfl

/-- The statement that calls mix, in whatever order. -/
theorem wo_region (q : String) (g : Nat) (w0 : World) (s p : Nat → Int) (m : Int) (a0 : Act) (hsz : a0.tmps.size = 48) (h0 : a0.eval (.tmp 0) = ptr g) (hb : Blk w0 g 141 (digA s p m)) (Q : Exit → Act → World → Prop)
    (hQ : ∀ wc, w0.grownBy wc (some g) → Blk wc g 141 (digA (mixF s p) p m) → Q .normal (putsTo (woA q) (woV g s p) a0 13) wc) :
    (Code.region 6 (woA q) true).wp Tryd.prog Q a0 w0 := by
  refine wp_region_vals (by kernel_rfl) (woV g s p) (WoW g w0 s p m) (by rw [hsz]; kernel_rfl) (by kernel_rfl) (wo_step q g w0 s p m a0 h0 Q) ?_ ?_
  · intro l wc hW hall
    exact hQ wc hW.gr (hW.b (hall 12 (by simp [woA])))
  · exact ⟨⟨rfl, rfl, rfl, Nat.le_refl _, fun _ _ _ => rfl⟩, fun _ => hb.drew, fun h => by simp [Array.getD] at h, fun h => by simp [Array.getD] at h⟩
end Go.Proofs.YtennogmeeefopaaDoor
