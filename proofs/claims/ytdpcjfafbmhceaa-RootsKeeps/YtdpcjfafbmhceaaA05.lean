import Derived.Test.YtdpcjfafbmhceaaA04
import Derived.Test.YtdpcjfafbmhceaaA01
import Derived.Lib.Bytealg
import Derived.LoopN
import Derived.Deep.RegionHeld3
import Derived.ArgAppend
import Derived.Lib.ConvBytes
namespace Go.Proofs.Ytdpcjfafbmhceaa
open Go.RowKit
set_option linter.unusedSimpArgs false
set_option linter.unusedVariables false
theorem Uz (w : World) (vs : Array Value) : (callFunc 55 vs).run Try.prog w = .ok (.enter 55 vs) w := by kernel_rfl
theorem Jv (s : Nat → Int) : ∀ t i, 0 ≤ qU s t i ∧ qU s t i < 256
 | 0, i => by simp [qU]
 | t + 1, i => by
  have ih := Jv s t i
  simp only [qU, upd]
  repeat' split
  all_goals first | exact ih | omega
theorem KE (l : List Int) (i : Nat) : 0 ≤ qy l i ∧ qy l i < 256 := Jv _ 8 i
def kO (l : List Int) : Hs := Hs.mk' (qy l) fun i _ => KE l i
theorem Zu (l : List Int) (i : Nat) (hi : i < 32) : (kO l).f i = qy l i := Hs.mk'_f _ _ i hi
theorem yw (l : List Int) : qb 32 (qy l) = (jg (kO l)).toArray := by
 rw [zT]; exact jd fun i hi => (Zu l i hi).symm
def hsL (h : Hs) : List Int := hl 32 h.f
theorem Gk (l : List Int) : hsL (kO l) = zR l := by
 simp only [hsL, zR, hl]
 exact List.map_congr_left fun i hi => Zu l i (List.mem_range.1 hi)
theorem vC {k : Nat} {L : List CV} (h1 : 1 ≤ L.length) (h2 : L.length ≤ k) : ∃ h : Hs, hsL h = qx k L ∧ qb 32 (hof (qx k L)) = (jg h).toArray := by
 obtain ⟨row, e⟩ : ∃ row, qx k L = zR row := by
  match k, h2 with
  | 0, h2 => omega
  | k + 1, _ =>
   unfold qx RtP.tree
   split <;> exact ⟨_, rfl⟩
 refine ⟨kO row, by rw [Gk, e], ?_⟩
 rw [e, zR, xE, yw]
def zG (k : Nat) (L : List CV) (i : Nat) : List (List Int) := RtP.path zR qQ k (L.map CV.ce) i
theorem yU (k : Nat) (c : CV) (i : Nat) : zG (k + 1) [c] i = [] := by simp [zG, RtP.path]
theorem yA {k : Nat} {L : List CV} {i : Nat} (h : ¬ L.length ≤ 1) (hi : i < RtP.half L.length) : zG (k + 1) L i = zG k (L.take (RtP.half L.length)) i ++ [qx k (L.drop (RtP.half L.length))] := by
 unfold zG qx
 rw [RtP.path, if_neg (by simpa using h), if_pos (by simpa using hi)]
 simp [List.map_take, List.map_drop]
theorem yB {k : Nat} {L : List CV} {i : Nat} (h : ¬ L.length ≤ 1) (hi : ¬ i < RtP.half L.length) : zG (k + 1) L i = zG k (L.drop (RtP.half L.length)) (i - RtP.half L.length) ++ [qx k (L.take (RtP.half L.length))] := by
 unfold zG qx
 rw [RtP.path, if_neg (by simpa using h), if_neg (by simpa using hi)]
 simp [List.map_take, List.map_drop]
theorem OwnsH.bk {B : Nat} {w w' : World} {v : Value} {n : Nat} {xs : List Value} (h : w.ownsRow B 32 32 v n xs) (hg : Grown w w' (BkS B w)) : w'.ownsRow B 32 32 v n xs := qo h hg fun k hk e => by
 rcases e.2 with e | e
 ·exact absurd ((qn h hk).one e) (by decide)
 ·exact absurd ((qn h hk).one e) (by decide)
theorem BkH.own25 {B : Nat} {w w' : World} {x : Nat} {R : List (List Int)} {v : Value} {n : Nat} {xs : List Value} (h : BkH B w x R) (ho : w.ownsRow B 32 32 v n xs) (hg : Grown w w' fun k => v.ownBlock = some k) : BkH B w' x R :=
 h.grown hg fun k e => ⟨fun t => absurd ((qn ho e).one t) (by decide), fun t => absurd ((qn ho e).one t) (by decide), fun u m hu hk => absurd ((qn ho e).one (hu.typ hk)) (by decide)⟩
def PP (B x k : Nat) (L : List CV) (i : Nat) (R : List (List Int)) (w : World) (e : Ending) (w' : World) : Prop :=
 ∃ (v : Value) (ps : List Hs) (R' : List (List Int)), e = .returned v ∧ w'.ownsRow B 32 32 v ps.length (qF ps) ∧ (∀ j, v.ownBlock = some j → w.heap.size ≤ j) ∧ ps.map hsL = zG k L i ∧ BkH B w' x R' ∧ R'.length ≤ R.length + 2 * L.length ∧ Grown w w' (BkS B w)
theorem jS : ∀ (k : Nat) (L : List CV) (i : Nat), (zG k L i).length ≤ k
 | 0, L, i => by simp [zG, RtP.path]
 | k + 1, L, i => by
  by_cases h : L.length ≤ 1
  ·unfold zG RtP.path
   rw [if_pos (by simpa using h)]
   simp
  ·by_cases hi : i < RtP.half L.length
   ·rw [yA h hi, List.length_append, List.length_singleton]
    have := jS k (L.take (RtP.half L.length)) i
    omega
   ·rw [yB h hi, List.length_append, List.length_singleton]
    have := jS k (L.drop (RtP.half L.length)) (i - RtP.half L.length)
    omega
set_option maxRecDepth 8000 in
theorem ZG (B x k b off cap i : Nat) (c : CV) (R : List (List Int)) (w : World) (hK : BkH B w x R) (hB : B ≤ w.heap.size) :
  Calls Try.prog 55 #[.pointer (some ⟨x, 0, none⟩), .slice (some ⟨b, off, none⟩) 1 cap, .int .i64 (i : Int)] w (PP B x (k + 1) [c] i R w) := by
 have HK := kk hK
 have HB := kk hB
 clear hK hB
 go_enter Try.func55, Try.ntmps55
 refine wp_seq_k fun K1 hK1 => rgn (Vv (.slice none 0 0) (h:=WL.nil (hK1 _ _ (wp_seq_k fun K2 hK2 => wp_seq_k fun K3 hK3 => rgn (Vv (.slice (some ⟨b, off, none⟩) 1 cap) (h:=Vv (.int .i64 1) (h:=Vt (h:=WL.nil (hK3 _ _ (Ct (h:=wp_seq_k fun K4 hK4 => rgn (?_))))))))))))
 refine WL.bs (by kernel_rfl) 52 0 _ rfl #[] (by simp [Act.eval]) _ _ (VT w) ?_
 simp only [Act.put, pqA, pqB, pqC]
 refine Vv (.slice (some ⟨w.heap.size, 0, none⟩) 0 0) (h:=WL.nil (hK4 _ _ (wp_ret ?_)))
 try simp only [Exit.inBlock, Exit.then]
 go_ret
 refine ⟨_, [], R, rfl, ⟨rfl, .inr ⟨w.heap.size, 0, #[], rfl, HB.o, Blk.new w 32 #[], Nat.le_refl _, by decide, rfl, rfl⟩⟩, fun j hj => by simp [Value.ownBlock] at hj; omega, by rw [yU]; rfl, HK.o.below (qg w _), by omega, Grown.below (qg w _)⟩
set_option maxRecDepth 8000 in
theorem Ve (B x k : Nat) (IH : ∀ (b off cap : Nat) (L : List CV) (i : Nat) (R : List (List Int)) (w : World), 1 ≤ L.length → L.length ≤ k → i < L.length → BkH B w x R → CsAt B w b off L → Fit L → L.length ≤ cap → R.length + 2 * L.length ≤ 4398046511104 → B ≤ w.heap.size → Calls Try.prog 55 #[.pointer (some ⟨x, 0, none⟩), .slice (some ⟨b, off, none⟩) L.length cap, .int .i64 (i : Int)] w (PP B x k L i R w))
  (b off cap : Nat) (L : List CV) (i : Nat) (R : List (List Int)) (w : World) (h1 : 2 ≤ L.length) (h2 : L.length ≤ k + 1) (hi : i < L.length) (hlo : i < RtP.half L.length) (hK : BkH B w x R) (hC : CsAt B w b off L) (hF : Fit L) (hc : L.length ≤ cap) (hN : R.length + 2 * L.length ≤ 4398046511104) (hB : B ≤ w.heap.size) (hk : k ≤ 1099511627776) : Calls Try.prog 55 #[.pointer (some ⟨x, 0, none⟩), .slice (some ⟨b, off, none⟩) L.length cap, .int .i64 (i : Int)] w (PP B x (k + 1) L i R w) := by
 obtain ⟨n, hn⟩ : ∃ z, Keep (L.length = z) := ⟨_, ⟨rfl⟩⟩
 obtain ⟨m, hm⟩ : ∃ z, Keep (RtP.half n = z) := ⟨_, ⟨rfl⟩⟩
 rw [hn.o] at h1 h2 hi hlo hc hN ⊢
 have hh := RtP.half_le h1
 rw [hm.o] at hh hlo
 have hl1 : (L.take m).length = m := by rw [List.length_take, hn.o]; omega
 have hl2 : (L.drop m).length = n - m := by rw [List.length_drop, hn.o]
 have HK := kk hK
 have HC := kk hC
 have HF := kk hF
 have HN := kk hN
 have HB := kk hB
 have Hk := kk hk
 have hn1 : ((n : Int) == 1) = false := by simp; omega
 have hlo' : (i : Int) < (m : Int) := by omega
 
 clear hK hC hF hN hB hk
 go_enter Try.func55, Try.ntmps55
 refine wp_seq_k fun K1 hK1 => rgn (Vv (.slice none 0 0) (h:=WL.nil (hK1 _ _ (wp_seq_k fun K2 hK2 => wp_seq_k fun K3 hK3 => rgn (Vv (.slice (some ⟨b, off, none⟩) n cap) (h:=Vv (.int .i64 (n : Int)) (h:=Vf (h:=WL.nil (hK3 _ _ (Cf (h:=wp_skip (hK2 _ _ (wp_seq_k fun K4 hK4 => rgn (Vv (.slice (some ⟨b, off, none⟩) n cap) (h:=Vv (.int .i64 (n : Int)) (h:=?_))))))))))))))))
 refine ClS (kp n w (by omega) (by have := HN.o; omega)) ?_
 rintro e w1_ ⟨rfl, hw_⟩
 refine ⟨_, rfl, ?_⟩
 have hw_ := hw_.symm
 subst hw_
 rw [hm.o]
 refine Vv (.int .i64 (m : Int)) (h:=WL.nil (hK4 _ _ (wp_seq_k fun K5 hK5 => wp_seq_k fun K6 hK6 => rgn (Vv (.int .i64 (i : Int)) (h:=Vv (.int .i64 (m : Int)) (h:=Vt (h:=WL.nil (hK6 _ _ (Ct (h:=wp_seq_k fun K7 hK7 => rgn (Vv (.pointer (some ⟨x, 0, none⟩)) (h:=Vv (.slice (some ⟨b, off, none⟩) n cap) (h:=Vv (.int .i64 (m : Int)) (h:=?_))))))))))))))
 refine WL.slr (by kernel_rfl) 22 (.tmp 21) none (some (.tmp 22)) rfl (.slice (some ⟨b, off, none⟩) n cap) none (some (.int .i64 (m : Int))) (.slice (some ⟨b, off, none⟩) m cap) rfl rfl rfl (KD _ n cap m (by omega) _) ?_
 simp only [Act.put, pqA, pqB, pqC]
 refine VlS (.int .i64 (i : Int)) ?_
 have hrc := IH b off cap (L.take m) i R w (by rw [hl1]; omega) (by rw [hl1]; omega) (by rw [hl1]; omega) HK.o (HC.o.take m) (fun c hc => HF.o c (List.mem_of_mem_take hc)) (by rw [hl1]; omega) (by rw [hl1]; have := HN.o; omega) HB.o
 rw [hl1] at hrc
 refine ClS (hrc) ?_
 rintro e w1 ⟨vp, ps, R1, rfl, k1, k2, k3, k4, k5, k6⟩
 refine ⟨_, rfl, ?_⟩
 have O1 := kk k1
 have F1 := kk k2
 have E1 := kk k3
 have BK1 := kk k4
 have N1 : Keep (R1.length ≤ R.length + 2 * (L.take m).length) := ⟨k5⟩
 have G1 := kk k6
 clear hrc k1 k2 k3 k4 k5 k6
 refine Vv (vp) (h:=WL.nil (hK7 _ _ (wp_seq_k fun K8 hK8 => rgn (Vv (vp) (h:=Vv (.pointer (some ⟨x, 0, none⟩)) (h:=Vv (.slice (some ⟨b, off, none⟩) n cap) (h:=Vv (.int .i64 (m : Int)) (h:=?_))))))))
 refine WL.slr (by kernel_rfl) 22 (.tmp 28) (some (.tmp 29)) none rfl (.slice (some ⟨b, off, none⟩) n cap) (some (.int .i64 (m : Int))) none (.slice (some ⟨b, off + m * 3, none⟩) (n - m) (cap - m)) rfl rfl rfl (Zs b off n cap m (by omega) (by omega) _) ?_
 simp only [Act.put, pqA, pqB, pqC]
 have hS : B ≤ w1.heap.size := Nat.le_trans HB.o G1.o.size
 have htc := yu B x k b (off + m * 3) (cap - m) (L.drop m) R1 w1 (by rw [hl2]; omega) (by rw [hl2]; omega) BK1.o ((HC.o.drop m).below (G1.o.bkBelow HB.o)) (fun c hc => HF.o c (List.mem_of_mem_drop hc)) (by rw [hl2]; omega) (by have h := N1.o; rw [hl1] at h; rw [hl2]; have := HN.o; omega) hS
 rw [hl2] at htc
 obtain ⟨h2, Eh, Ea⟩ : ∃ h : Hs, Keep (hsL h = qx k (L.drop m)) ∧ Keep (qb 32 (hof (qx k (L.drop m))) = (jg h).toArray) := by
  obtain ⟨h, e1, e2⟩ := vC (k := k) (L := L.drop m) (by rw [hl2]; omega) (by rw [hl2]; omega)
  exact ⟨h, ⟨e1⟩, ⟨e2⟩⟩
 refine ClS (htc) ?_
 rintro e w2 ⟨rfl, k1, k2⟩
 refine ⟨_, rfl, ?_⟩
 rw [Ea.o]
 have BK2 := kk k1
 have G2 : Keep (Grown w w2 (BkS B w)) := ⟨BkS.next G1.o k2⟩
 have O2 := kk (OwnsH.bk O1.o k2)
 clear htc k1 k2 hS
 refine WL.bs (by kernel_rfl) 52 1 _ rfl #[(0, .agg (jg h2).toArray)] (by simp [Act.eval]) _ _ (GO h2 w2) ?_
 have b3 := qg w2 (.cells (jg h2).toArray 32)
 have Q3 := kk (Blk.new w2 32 (jg h2).toArray)
 have BK3 := kk (BK2.o.below b3)
 have G3 := kk (G2.o.belowS b3)
 have O3 := kk (qj O2.o b3)
 generalize w2.alloc (.cells (jg h2).toArray 32) = w3 at *
 obtain ⟨g, hg0⟩ := nm w2
 rw [← hg0.o] at Q3 ⊢
 clear b3
 simp only [Act.put, pqA, pqB, pqC]
 refine ⟨yt rfl (.tmp 26) (.tmp 32) rfl B vp ps [h2] g 0 1 rfl rfl O3.o (by have h := ql Q3.o; simpa [qF] using h) (by have h := congrArg List.length E1.o; have := jS k (L.take m) i; rw [List.length_map] at h; have := HN.o; have := Hk.o; simp; omega) (Nat.le_trans HB.o G3.o.size) (fun v4 w4 k1 k2 k3 => WL.out ?_)⟩
 have O4 := kk k1
 have g4 : Grown w3 w4 fun k => vp.ownBlock = some k := Grown.of k2 fun _ _ e => e
 have BK4 := kk (BK3.o.own25 O3.o g4)
 have G4 : Keep (Grown w w4 (BkS B w)) := ⟨G3.o.next g4 fun j hj e => by have := F1.o j e; omega⟩
 have F4 : Keep (∀ j, v4.ownBlock = some j → w.heap.size ≤ j) := ⟨fun j hj => by
  rcases k3 with e | e
  ·rw [e] at hj; exact F1.o j hj
  ·rw [e] at hj; injection hj with hj; have := G3.o.size; omega⟩
 clear k1 k2 k3 g4
 simp only [Act.put, pqA, pqB, pqC]
 refine Vv (v4) (h:=WL.nil (hK8 _ _ (wp_ret ?_)))
 try simp only [Exit.inBlock, Exit.then]
 go_ret
 refine ⟨v4, ps ++ [h2], _, rfl, O4.o, F4.o, ?_, BK4.o, ?_, G4.o⟩
 ·rw [yA (by rw [hn.o]; omega) (by rw [hn.o, hm.o]; exact hlo), hn.o, hm.o, List.map_append, E1.o, List.map_singleton, Eh.o]
 ·have h1 := N1.o
  have h2 := jk k (L.drop m) (by rw [hl2]; omega) (by rw [hl2]; omega)
  rw [hl1] at h1
  rw [hl2] at h2
  rw [List.length_append, hn.o]
  omega
set_option maxRecDepth 8000 in
theorem Vg (B x k : Nat) (IH : ∀ (b off cap : Nat) (L : List CV) (i : Nat) (R : List (List Int)) (w : World), 1 ≤ L.length → L.length ≤ k → i < L.length → BkH B w x R → CsAt B w b off L → Fit L → L.length ≤ cap → R.length + 2 * L.length ≤ 4398046511104 → B ≤ w.heap.size → Calls Try.prog 55 #[.pointer (some ⟨x, 0, none⟩), .slice (some ⟨b, off, none⟩) L.length cap, .int .i64 (i : Int)] w (PP B x k L i R w))
  (b off cap : Nat) (L : List CV) (i : Nat) (R : List (List Int)) (w : World) (h1 : 2 ≤ L.length) (h2 : L.length ≤ k + 1) (hi : i < L.length) (hlo : ¬ i < RtP.half L.length) (hK : BkH B w x R) (hC : CsAt B w b off L) (hF : Fit L) (hc : L.length ≤ cap) (hN : R.length + 2 * L.length ≤ 4398046511104) (hB : B ≤ w.heap.size) (hk : k ≤ 1099511627776) : Calls Try.prog 55 #[.pointer (some ⟨x, 0, none⟩), .slice (some ⟨b, off, none⟩) L.length cap, .int .i64 (i : Int)] w (PP B x (k + 1) L i R w) := by
 obtain ⟨n, hn⟩ : ∃ z, Keep (L.length = z) := ⟨_, ⟨rfl⟩⟩
 obtain ⟨m, hm⟩ : ∃ z, Keep (RtP.half n = z) := ⟨_, ⟨rfl⟩⟩
 rw [hn.o] at h1 h2 hi hlo hc hN ⊢
 have hh := RtP.half_le h1
 rw [hm.o] at hh hlo
 have hl1 : (L.take m).length = m := by rw [List.length_take, hn.o]; omega
 have hl2 : (L.drop m).length = n - m := by rw [List.length_drop, hn.o]
 have HK := kk hK
 have HC := kk hC
 have HF := kk hF
 have HN := kk hN
 have HB := kk hB
 have Hk := kk hk
 have hn1 : ((n : Int) == 1) = false := by simp; omega
 have hlo' : ¬ (i : Int) < (m : Int) := by omega
 have hwi : IntKind.i64.wrap ((i : Int) - (m : Int)) = ((i - m : Nat) : Int) := by rw [IntKind.wrap_i64]; have := HN.o; omega
 clear hK hC hF hN hB hk
 go_enter Try.func55, Try.ntmps55
 refine wp_seq_k fun K1 hK1 => rgn (Vv (.slice none 0 0) (h:=WL.nil (hK1 _ _ (wp_seq_k fun K2 hK2 => wp_seq_k fun K3 hK3 => rgn (Vv (.slice (some ⟨b, off, none⟩) n cap) (h:=Vv (.int .i64 (n : Int)) (h:=Vf (h:=WL.nil (hK3 _ _ (Cf (h:=wp_skip (hK2 _ _ (wp_seq_k fun K4 hK4 => rgn (Vv (.slice (some ⟨b, off, none⟩) n cap) (h:=Vv (.int .i64 (n : Int)) (h:=?_))))))))))))))))
 refine ClS (kp n w (by omega) (by have := HN.o; omega)) ?_
 rintro e w1_ ⟨rfl, hw_⟩
 refine ⟨_, rfl, ?_⟩
 have hw_ := hw_.symm
 subst hw_
 rw [hm.o]
 refine Vv (.int .i64 (m : Int)) (h:=WL.nil (hK4 _ _ (wp_seq_k fun K5 hK5 => wp_seq_k fun K6 hK6 => rgn (Vv (.int .i64 (i : Int)) (h:=Vv (.int .i64 (m : Int)) (h:=Vf (h:=WL.nil (hK6 _ _ (Cf (h:=wp_skip (hK5 _ _ (wp_seq_k fun K7 hK7 => rgn (Vv (.pointer (some ⟨x, 0, none⟩)) (h:=Vv (.slice (some ⟨b, off, none⟩) n cap) (h:=Vv (.int .i64 (m : Int)) (h:=?_))))))))))))))))
 refine WL.slr (by kernel_rfl) 22 (.tmp 35) (some (.tmp 36)) none rfl (.slice (some ⟨b, off, none⟩) n cap) (some (.int .i64 (m : Int))) none (.slice (some ⟨b, off + m * 3, none⟩) (n - m) (cap - m)) rfl rfl rfl (Zs b off n cap m (by omega) (by omega) _) ?_
 simp only [Act.put, pqA, pqB, pqC]
 refine Vv (.int .i64 (i : Int)) (h:=Vv (.int .i64 (m : Int)) (h:=Vv (.int .i64 ((i - m : Nat) : Int)) (h:=?_)))
 have hrc := IH b (off + m * 3) (cap - m) (L.drop m) (i - m) R w (by rw [hl2]; omega) (by rw [hl2]; omega) (by rw [hl2]; omega) HK.o (HC.o.drop m) (fun c hc => HF.o c (List.mem_of_mem_drop hc)) (by rw [hl2]; omega) (by rw [hl2]; have := HN.o; omega) HB.o
 rw [hl2] at hrc
 refine ClS (hrc) ?_
 rintro e w1 ⟨vp, ps, R1, rfl, k1, k2, k3, k4, k5, k6⟩
 refine ⟨_, rfl, ?_⟩
 have O1 := kk k1
 have F1 := kk k2
 have E1 := kk k3
 have BK1 := kk k4
 have N1 : Keep (R1.length ≤ R.length + 2 * (L.drop m).length) := ⟨k5⟩
 have G1 := kk k6
 clear hrc k1 k2 k3 k4 k5 k6
 refine Vv (vp) (h:=WL.nil (hK7 _ _ (wp_seq_k fun K8 hK8 => rgn (Vv (vp) (h:=Vv (.pointer (some ⟨x, 0, none⟩)) (h:=Vv (.slice (some ⟨b, off, none⟩) n cap) (h:=Vv (.int .i64 (m : Int)) (h:=?_))))))))
 refine WL.slr (by kernel_rfl) 22 (.tmp 44) none (some (.tmp 45)) rfl (.slice (some ⟨b, off, none⟩) n cap) none (some (.int .i64 (m : Int))) (.slice (some ⟨b, off, none⟩) m cap) rfl rfl rfl (KD _ n cap m (by omega) _) ?_
 simp only [Act.put, pqA, pqB, pqC]
 have hS : B ≤ w1.heap.size := Nat.le_trans HB.o G1.o.size
 have htc := yu B x k b off cap (L.take m) R1 w1 (by rw [hl1]; omega) (by rw [hl1]; omega) BK1.o ((HC.o.take m).below (G1.o.bkBelow HB.o)) (fun c hc => HF.o c (List.mem_of_mem_take hc)) (by rw [hl1]; omega) (by have h := N1.o; rw [hl2] at h; rw [hl1]; have := HN.o; omega) hS
 rw [hl1] at htc
 obtain ⟨h2, Eh, Ea⟩ : ∃ h : Hs, Keep (hsL h = qx k (L.take m)) ∧ Keep (qb 32 (hof (qx k (L.take m))) = (jg h).toArray) := by
  obtain ⟨h, e1, e2⟩ := vC (k := k) (L := L.take m) (by rw [hl1]; omega) (by rw [hl1]; omega)
  exact ⟨h, ⟨e1⟩, ⟨e2⟩⟩
 refine ClS (htc) ?_
 rintro e w2 ⟨rfl, k1, k2⟩
 refine ⟨_, rfl, ?_⟩
 rw [Ea.o]
 have BK2 := kk k1
 have G2 : Keep (Grown w w2 (BkS B w)) := ⟨BkS.next G1.o k2⟩
 have O2 := kk (OwnsH.bk O1.o k2)
 clear htc k1 k2 hS
 refine WL.bs (by kernel_rfl) 52 1 _ rfl #[(0, .agg (jg h2).toArray)] (by simp [Act.eval]) _ _ (GO h2 w2) ?_
 have b3 := qg w2 (.cells (jg h2).toArray 32)
 have Q3 := kk (Blk.new w2 32 (jg h2).toArray)
 have BK3 := kk (BK2.o.below b3)
 have G3 := kk (G2.o.belowS b3)
 have O3 := kk (qj O2.o b3)
 generalize w2.alloc (.cells (jg h2).toArray 32) = w3 at *
 obtain ⟨g, hg0⟩ := nm w2
 rw [← hg0.o] at Q3 ⊢
 clear b3
 simp only [Act.put, pqA, pqB, pqC]
 refine ⟨yt rfl (.tmp 42) (.tmp 48) rfl B vp ps [h2] g 0 1 rfl rfl O3.o (by have h := ql Q3.o; simpa [qF] using h) (by have h := congrArg List.length E1.o; have := jS k (L.drop m) (i - m); rw [List.length_map] at h; have := HN.o; have := Hk.o; simp; omega) (Nat.le_trans HB.o G3.o.size) (fun v4 w4 k1 k2 k3 => WL.out ?_)⟩
 have O4 := kk k1
 have g4 : Grown w3 w4 fun k => vp.ownBlock = some k := Grown.of k2 fun _ _ e => e
 have BK4 := kk (BK3.o.own25 O3.o g4)
 have G4 : Keep (Grown w w4 (BkS B w)) := ⟨G3.o.next g4 fun j hj e => by have := F1.o j e; omega⟩
 have F4 : Keep (∀ j, v4.ownBlock = some j → w.heap.size ≤ j) := ⟨fun j hj => by
  rcases k3 with e | e
  ·rw [e] at hj; exact F1.o j hj
  ·rw [e] at hj; injection hj with hj; have := G3.o.size; omega⟩
 clear k1 k2 k3 g4
 simp only [Act.put, pqA, pqB, pqC]
 refine Vv (v4) (h:=WL.nil (hK8 _ _ (wp_ret ?_)))
 try simp only [Exit.inBlock, Exit.then]
 go_ret
 refine ⟨v4, ps ++ [h2], _, rfl, O4.o, F4.o, ?_, BK4.o, ?_, G4.o⟩
 ·rw [yB (by rw [hn.o]; omega) (by rw [hn.o, hm.o]; exact hlo), hn.o, hm.o, List.map_append, E1.o, List.map_singleton, Eh.o]
 ·have h1 := N1.o
  have h2 := jk k (L.take m) (by rw [hl1]; omega) (by rw [hl1]; omega)
  rw [hl2] at h1
  rw [hl1] at h2
  rw [List.length_append, hn.o]
  omega
theorem vY (B x : Nat) : ∀ (k : Nat), k ≤ 1099511627776 → ∀ (b off cap : Nat) (L : List CV) (i : Nat) (R : List (List Int)) (w : World), 1 ≤ L.length → L.length ≤ k → i < L.length → BkH B w x R → CsAt B w b off L → Fit L → L.length ≤ cap → R.length + 2 * L.length ≤ 4398046511104 → B ≤ w.heap.size → Calls Try.prog 55 #[.pointer (some ⟨x, 0, none⟩), .slice (some ⟨b, off, none⟩) L.length cap, .int .i64 (i : Int)] w (PP B x k L i R w)
 | 0, _, b, off, cap, L, i, R, w, h1, h2, _, _, _, _, _, _, _ => by omega
 | k + 1, hk, b, off, cap, L, i, R, w, h1, h2, hi, hK, hC, hF, hc, hN, hB => by
  by_cases h : 2 ≤ L.length
  ·by_cases hlo : i < RtP.half L.length
   ·exact Ve B x k (vY B x k (by omega)) b off cap L i R w h h2 hi hlo hK hC hF hc hN hB (by omega)
   ·exact Vg B x k (vY B x k (by omega)) b off cap L i R w h h2 hi hlo hK hC hF hc hN hB (by omega)
  ·obtain ⟨c, rfl⟩ : ∃ c, L = [c] := List.length_eq_one_iff.1 (by omega)
   exact ZG B x k b off cap i c R w hK hB
def HPa (B : Nat) (w : World) (v : Value) (ps : List Hs) : Prop :=
 (∃ a c, v = .slice a 0 c ∧ ps = []) ∨ ∃ b off cap, v = .slice (some ⟨b, off, none⟩) ps.length cap ∧ ps.length ≤ cap ∧ b < B ∧ w.rangeAt b off (qF ps)
theorem HPa.below {B : Nat} {w w' : World} {v : Value} {ps : List Hs} (h : HPa B w v ps) (hb : Below B w w') : HPa B w' v ps := by
 rcases h with h | ⟨b, off, cap, h1, h2, h3, h4⟩
 ·exact .inl h
 ·exact .inr ⟨b, off, cap, h1, h2, h3, zj h4 hb h3⟩
theorem kG : Try.prog.elem 52 = 32 := by kernel_rfl
theorem Kt (w : World) : (sizeOf 32).run Try.prog w = .ok 32 w := by kernel_rfl
theorem VW : Try.prog.underlying 52 = some (.slice (Try.prog.elem 52)) := by rw [kG]; exact Try.underlying52
theorem Xy (a : Option Addr) (n c i : Nat) (hi : i ≤ c) (w : World) : (Instr.sliceAt 52 (.slice a n c) none (some (.int .i64 (i : Int))) none).run Try.prog w = .ok (.slice a i c) w := by
 have h1 := run_slice_h (P := Try.prog) (w := w) 52 a n c VW .i64 (i : Int) (by omega) (by omega)
 have h2 := run_sliceAt_slice (P := Try.prog) (w := w) 52 (.slice a n c) none (some (.int .i64 (i : Int))) none VW
 rw [h2, h1, kG, Kt, Result.andThen_ok, Int.toNat_natCast]
 have h4 : (if c = 0 then a else a.map (·.add (0 * 32))) = a := by
  split
  ·rfl
  ·cases a <;> rfl
 simp only [sliced, Nat.sub_zero, h4]
def zu (n i : Nat) (h : List Int) (ps : List Hs) : Option (List Int × List (List Int)) := RtP.climb zR (ps.length + 1) n i h (ps.reverse.map hsL)
theorem ks (i : Nat) (h : List Int) (ps : List Hs) : zu 1 i h ps = if ps.length = 0 then some (h, []) else none := by
 unfold zu RtP.climb
 rw [if_pos (Nat.le_refl _)]
 cases e : ps.reverse with
 | nil =>
  have h0 : ps = [] := by simpa using e
  subst h0; rfl
 | cons y r =>
  have hl : ps.length ≠ 0 := fun h0 => by have := List.eq_nil_of_length_eq_zero h0; subst this; simp at e
  rw [if_neg hl]; rfl
theorem Kn {n : Nat} (i : Nat) (h : List Int) (hn : ¬ n ≤ 1) : zu n i h [] = none := by
 unfold zu RtP.climb
 rw [if_neg hn]; rfl
theorem YV {n i : Nat} {h : List Int} {qs : List Hs} {y : Hs} (hn : ¬ n ≤ 1) (hi : i < RtP.half n) : zu n i h (qs ++ [y]) = (match zu (RtP.half n) i h qs with | some (x, rs) => some (zR (RtP.innR x (hsL y)), rs ++ [RtP.innR x (hsL y)]) | none => none) := by
 unfold zu
 have e : ((qs ++ [y]).reverse).map hsL = hsL y :: qs.reverse.map hsL := by simp
 rw [List.length_append, List.length_singleton, e, RtP.climb, if_neg hn]
 simp only [hi, if_true]
 generalize RtP.climb zR (qs.length + 1) (RtP.half n) i h (List.map hsL qs.reverse) = z
 cases z <;> rfl
theorem YW {n i : Nat} {h : List Int} {qs : List Hs} {y : Hs} (hn : ¬ n ≤ 1) (hi : ¬ i < RtP.half n) : zu n i h (qs ++ [y]) = (match zu (n - RtP.half n) (i - RtP.half n) h qs with | some (x, rs) => some (zR (RtP.innR (hsL y) x), rs ++ [RtP.innR (hsL y) x]) | none => none) := by
 unfold zu
 have e : ((qs ++ [y]).reverse).map hsL = hsL y :: qs.reverse.map hsL := by simp
 rw [List.length_append, List.length_singleton, e, RtP.climb, if_neg hn]
 simp only [hi, if_false]
 generalize RtP.climb zR (qs.length + 1) (n - RtP.half n) (i - RtP.half n) h (List.map hsL qs.reverse) = z
 cases z <;> rfl
theorem yW {a b : Nat → Int} (h : qb 32 a = qb 32 b) : hl 32 a = hl 32 b := by
 simp only [hl]
 refine List.map_congr_left fun i hi => ?_
 have h1 := qN 32 a i (List.mem_range.1 hi)
 rw [h, qN 32 b i (List.mem_range.1 hi)] at h1
 simpa using h1.symm
theorem Ux (w : World) (vs : Array Value) : (callFunc 65 vs).run Try.prog w = .ok (.enter 65 vs) w := by kernel_rfl
theorem Uw (w : World) (vs : Array Value) : (callFunc 66 vs).run Try.prog w = .ok (.enter 66 vs) w := by kernel_rfl
theorem Uy (w : World) (vs : Array Value) : (callFunc 64 vs).run Try.prog w = .ok (.enter 64 vs) w := by kernel_rfl
theorem xK (w : World) (vs : Array Value) : (callFunc 46 vs).run Try.prog w = .ok (.enter 46 vs) w := by kernel_rfl
set_option maxRecDepth 8000 in
theorem zL (k : Int) (w : World) : Calls Try.prog 26 #[.int .i64 k] w fun e w' => e = .returned (.bool (zi k)) ∧ w' = w := by
 by_cases h1 : 1 ≤ k
 ·by_cases h2 : k ≤ 4
  ·go_enter Try.func26, Try.ntmps26
   go_wp2
   go_ret
   simp [zi, h1, h2]
  ·go_enter Try.func26, Try.ntmps26
   go_wp2
   go_ret
   simp [zi, h1, h2]
 ·go_enter Try.func26, Try.ntmps26
  go_wp2
  go_ret
  have : decide (1 ≤ k) = false := by simp; omega
  simp [zi, this]
def sI (a b : ByteArray) : Int := Lib.compareBytes a.data.toList b.data.toList
set_option maxRecDepth 8000 in
theorem Us (a b : ByteArray) (w : World) : Calls Try.prog 83 #[.string a, .string b] w fun e w' => e = .returned (.int .i64 (sI a b)) ∧ w' = w := by
 go_enter Try.func83, Try.ntmps83
 go_wp2
 rw [run_callFunc_extern Try.func93 (by kernel_rfl) (by kernel_rfl) (by kernel_rfl) (e := Extern.BytealgCompare.compare) (by kernel_rfl), Lib.run_compareString]
 simp only [Result.andThen]
 rw [Oper.upon_value]
 go_wp2
 go_ret
 exact ⟨rfl, rfl⟩
set_option maxRecDepth 8000 in
theorem Zv (a b : ByteArray) (w : World) : Calls Try.prog 66 #[.string a, .string b] w fun e w' => e = .returned (.int .i64 (sI a b)) ∧ w' = w := by
 go_enter Try.func66, Try.ntmps66
 go_wp2_with (go_at_call 83; refine (Us _ _ _).mono ?_; rintro e w' ⟨rfl, rfl⟩)
 go_ret
 exact ⟨rfl, rfl⟩
theorem Kh (a : Int) (w : World) : Calls Try.prog 82 #[.int .i64 a] w fun e w' => e = .returned (.bool false) ∧ w' = w := by
 go_enter Try.func82, Try.ntmps82
 go_wp2
 go_ret
 simp
def cI (a b : Int) : Int := if a < b then -1 else if b < a then 1 else 0
set_option maxRecDepth 8000 in
theorem ZX (a b : Int) (w : World) : Calls Try.prog 65 #[.int .i64 a, .int .i64 b] w fun e w' => e = .returned (.int .i64 (cI a b)) ∧ w' = w := by
 by_cases h1 : a < b
 ·go_enter Try.func65, Try.ntmps65
  go_wp2_with (go_at_call 82; refine (Kh _ _).mono ?_; rintro e w' ⟨rfl, rfl⟩)
  go_ret
  simp [cI, h1]
 ·by_cases h2 : b < a
  ·go_enter Try.func65, Try.ntmps65
   go_wp2_with (go_at_call 82; refine (Kh _ _).mono ?_; rintro e w' ⟨rfl, rfl⟩)
   go_ret
   simp [cI, h1, h2]
  ·go_enter Try.func65, Try.ntmps65
   go_wp2_with (go_at_call 82; refine (Kh _ _).mono ?_; rintro e w' ⟨rfl, rfl⟩)
   go_ret
   unfold cI
   rw [if_neg (by omega), if_neg (by omega)]
   exact ⟨rfl, rfl⟩
set_option maxRecDepth 8000 in
theorem Gs (g : Nat) (a b : Int) (w : World) (h : Blk w g 3 #[.int .i64 a, .int .i64 b]) : Calls Try.prog 64 #[.slice (some ⟨g, 0, none⟩) 2 2] w fun e w' => e = .returned (.int .i64 (if a = 0 then b else a)) ∧ w' = w := by
 have h0 := h.c 0 (v := .int .i64 a) rfl
 have h1 := h.c 1 (v := .int .i64 b) rfl
 clear h
 by_cases ha : a = 0
 ·by_cases hb : b = 0
  ·subst ha hb
   go_enter Try.func64, Try.ntmps64
   go_wp2
   refine wp_loop_rounds 3 ?_
   rw [rounds_succ]; go_wp2
   rw [rounds_succ]; go_wp2
   rw [rounds_succ]; go_wp2
   go_ret
   simp
  ·subst ha
   have hb' : (b == 0) = false := by simpa using hb
   go_enter Try.func64, Try.ntmps64
   go_wp2
   refine wp_loop_rounds 3 ?_
   rw [rounds_succ]; go_wp2
   rw [rounds_succ]; go_wp2
   go_ret
   simp
 ·have ha' : (a == 0) = false := by simpa using ha
  go_enter Try.func64, Try.ntmps64
  go_wp2
  refine wp_loop_rounds 3 ?_
  rw [rounds_succ]; go_wp2
  go_ret
  simp
theorem zI {P : Program} {o : Oper} {a : Act} {w : World} {K : Act → World → Prop} {Q : Exit → Act → World → Prop} (t : TypeId) (n : Nat) (parts : Array (Nat × Operand)) (ho : o.op = .buildSlice t n parts) (vs : Array (Nat × Value)) (hv : (parts.map fun (i, x) => (i, a.eval x)) = vs) (v : Value) (w' : World)
  (hr : (Instr.buildSlice t n vs).run P w = .ok v w') (h : K (a.put o.dst v) w') : o.wp P a w K Q := by
 have hrun : (execOp a.eval o).run P w = .ok (.value v) w' := by
  unfold execOp
  simp only [ho, hv, Sem.run_bind, hr, Result.andThen_ok]
  rfl
 unfold Oper.wp
 rw [hrun, Oper.upon_value]
 exact h
def stI (k : Int) (s : ByteArray) (j : Int) (t : ByteArray) : Int := if cI k j = 0 then sI s t else cI k j
theorem DJ (a b : Int) (w : World) : (Instr.buildSlice 65 2 #[(0, .int .i64 a), (1, .int .i64 b)]).run Try.prog w = .ok (.slice (some ⟨w.heap.size, 0, none⟩) 2 2) (w.alloc (.cells #[.int .i64 a, .int .i64 b] 3)) := by kernel_rfl
set_option maxRecDepth 8000 in
theorem zY (k j : Int) (s t : ByteArray) (vv : Value) (w : World) :
  Calls Try.prog 46 #[.agg #[.int .i64 k, .string s, vv], .int .i64 j, .string t] w fun e w' => e = .returned (.int .i64 (stI k s j t)) ∧ Below w.heap.size w w' := by
 go_enter Try.func46, Try.ntmps46
 refine wp_seq_k fun K1 hK1 => rgn (xM 44 (.tmp 0) #[.int .i64 k, .string s, vv] fun c w1 hc0 C1 b1 => ?_)
 have c0 := C1.o.c 0 (by rfl : (#[.int .i64 k, .string s, vv] : Array Value)[0]? = some (.int .i64 k))
 have c1 := C1.o.c 1 (by rfl : (#[.int .i64 k, .string s, vv] : Array Value)[1]? = some (.string s))
 refine Vv (.int .i64 0) (h:=WL.nil (hK1 _ _ (wp_seq_k fun K2 hK2 => ?_)))
 have HL1 : Keep (c < w1.heap.size) := ⟨C1.o.lt⟩
 refine wp_region_held_drew (S := fun wx => wx.cell? ⟨c, 0, none⟩ = some (.int .i64 k) ∧ wx.cell? ⟨c, 1, none⟩ = some (.string s)) (by kernel_rfl) (⟨c0, c1⟩) (fun hHeld => ?_)
 refine uJ 0 ⟨some 7, .fieldAddr 44 (.tmp 3) 0, 0, _, _, none⟩ (.pointer (some ⟨c, 0, none⟩)) rfl hHeld ?_
 refine uJ 2 ⟨some 9, .move (.tmp 1), 3, _, _, none⟩ (.int .i64 j) rfl hHeld ?_
 refine uJ 4 ⟨some 11, .fieldAddr 44 (.tmp 3) 1, 0, _, _, none⟩ (.pointer (some ⟨c, 1, none⟩)) rfl hHeld ?_
 refine uJ 6 ⟨some 13, .move (.tmp 2), 9, _, _, none⟩ (.string t) rfl hHeld ?_
 refine uJ 1 ⟨some 8, .load 3 (.tmp 7), 3, _, _, none⟩ (.int .i64 k) rfl hHeld ?_
 refine uJ 5 ⟨some 12, .load 9 (.tmp 11), 9, _, _, none⟩ (.string s) rfl hHeld ?_
 refine rd1 3 ⟨some 10, .call { callee := .value (.func 65), args := #[.tmp 8, .tmp 9], argTypes := #[3, 3] }, 3, _, _, none⟩ rfl fun K hK => ?_
 refine qz 65 _ _ rfl Ux #[.int .i64 k, .int .i64 j] (by simp [Act.eval]) (fun vz wz => vz = .int .i64 (cI k j) ∧ wz = w1.drew) ?_ ?_
 ·refine (ZX k j _).mono ?_
  rintro e wz ⟨rfl, rfl⟩
  exact ⟨_, rfl, rfl, rfl⟩
 rintro vz wz ⟨rfl, rfl⟩
 skip
 refine hK _ _ (⟨c0, c1⟩) fun hH1 => kNx ?_
 clear hK
 refine rd1 7 ⟨some 14, .call { callee := .value (.func 66), args := #[.tmp 12, .tmp 13], argTypes := #[9, 9] }, 3, _, _, none⟩ rfl fun K hK => ?_
 refine qz 66 _ _ rfl Uw #[.string s, .string t] (by simp [Act.eval]) (fun vz wz => vz = .int .i64 (sI s t) ∧ wz = w1.drew) ?_ ?_
 ·refine (Zv s t _).mono ?_
  rintro e wz ⟨rfl, rfl⟩
  exact ⟨_, rfl, rfl, rfl⟩
 rintro vz wz ⟨rfl, rfl⟩
 skip
 refine hK _ _ (⟨c0, c1⟩) fun hH2 => kNx ?_
 clear hK
 refine rd1 8 ⟨some 15, .buildSlice 65 2 #[(0, .tmp 10), (1, .tmp 14)], 65, _, _, none⟩ rfl fun K hK => ?_
 refine zI 65 2 _ rfl #[(0, .int .i64 (cI k j)), (1, .int .i64 (sI s t))] (by simp [Act.eval]) _ _ (DJ _ _ _) ?_
 have b2 : Below w1.heap.size w1 (w1.drew.alloc (.cells #[.int .i64 (cI k j), .int .i64 (sI s t)] 3)) := (Below.refl w1.heap.size w1).drew.trans (qg w1.drew _)
 have Q2 := kk (Blk.new w1.drew 3 #[.int .i64 (cI k j), .int .i64 (sI s t)])
 generalize w1.drew.alloc (.cells #[.int .i64 (cI k j), .int .i64 (sI s t)] 3) = w2 at *
 obtain ⟨g, hg⟩ := nm w1.drew
 rw [← hg.o] at Q2 ⊢
 have C2 := kk (C1.o.below b2 HL1.o)
 have B2 := tb b1 b2
 clear b2 c0 c1
 have c0 := C2.o.c 0 (by rfl : (#[.int .i64 k, .string s, vv] : Array Value)[0]? = some (.int .i64 k))
 have c1 := C2.o.c 1 (by rfl : (#[.int .i64 k, .string s, vv] : Array Value)[1]? = some (.string s))
 refine hK _ _ ⟨c0, c1⟩ fun hH3 => kNx ?_
 clear hK
 refine rd1 9 ⟨some 16, .call { callee := .value (.func 64), args := #[.tmp 15], argTypes := #[65] }, 3, _, _, none⟩ rfl fun K hK => ?_
 refine qz 64 _ _ rfl Uy #[.slice (some ⟨g, 0, none⟩) 2 2] (by simp [Act.eval]) (fun vz wz => vz = .int .i64 (stI k s j t) ∧ wz = w2) ?_ ?_
 ·refine (Gs g _ _ _ Q2.o).mono ?_
  rintro e wz ⟨rfl, rfl⟩
  exact ⟨_, rfl, rfl, rfl⟩
 rintro vz wz ⟨rfl, rfl⟩
 skip
 refine hK _ _ (⟨c0, c1⟩) fun hH4 => kNx ?_
 clear hK
 refine uJ 10 ⟨some 6, .assign (.tmp 16), 3, _, _, none⟩ (.int .i64 (stI k s j t)) rfl hH4 ?_
 refine wpAnyH_done (by kernel_rfl) ?_ _
 refine hK2 _ _ (wp_ret ?_)
 go_ret
 exact ⟨rfl, B2.o⟩
theorem XI : ∀ a b : List UInt8, (Lib.compareBytes a b < 0) ↔ Op.bytesLess a b = true
 | [], [] => by simp [Lib.compareBytes, Op.bytesLess]
 | [], _ :: _ => by simp [Lib.compareBytes, Op.bytesLess]
 | _ :: _, [] => by simp [Lib.compareBytes, Op.bytesLess]
 | a :: x, b :: y => by
  have ih := XI x y
  unfold Lib.compareBytes Op.bytesLess
  by_cases h1 : a < b
  ·simp [h1]
  ·by_cases h2 : b < a
   ·have h3 : ¬ a = b := fun e => by subst e; exact UInt8.lt_irrefl _ h2
    simp [h1, h2, h3]
   ·have h3 : a = b := UInt8.le_antisymm (UInt8.not_lt.1 h2) (UInt8.not_lt.1 h1)
    subst h3
    simp [UInt8.lt_irrefl, ih]
theorem XJ : ∀ a b : List UInt8, (0 < Lib.compareBytes a b) ↔ Op.bytesLess b a = true
 | [], [] => by simp [Lib.compareBytes, Op.bytesLess]
 | [], _ :: _ => by simp [Lib.compareBytes, Op.bytesLess]
 | _ :: _, [] => by simp [Lib.compareBytes, Op.bytesLess]
 | a :: x, b :: y => by
  have ih := XJ x y
  unfold Lib.compareBytes Op.bytesLess
  by_cases h1 : a < b
  ·have h3 : ¬ b = a := fun e => by subst e; exact UInt8.lt_irrefl _ h1
   have h4 : ¬ b < a := fun e => UInt8.lt_irrefl _ (UInt8.lt_trans h1 e)
   simp [h1, h3, h4]
  ·by_cases h2 : b < a
   ·simp [h1, h2]
   ·have h3 : a = b := UInt8.le_antisymm (UInt8.not_lt.1 h2) (UInt8.not_lt.1 h1)
    subst h3
    simp [UInt8.lt_irrefl, ih]
theorem XK : ∀ a b : List UInt8, (Lib.compareBytes a b = 0) ↔ a = b
 | [], [] => by simp [Lib.compareBytes]
 | [], _ :: _ => by simp [Lib.compareBytes]
 | _ :: _, [] => by simp [Lib.compareBytes]
 | a :: x, b :: y => by
  have ih := XK x y
  unfold Lib.compareBytes
  by_cases h1 : a < b
  ·have h3 : ¬ a = b := fun e => by subst e; exact UInt8.lt_irrefl _ h1
   simp [h1, h3]
  ·by_cases h2 : b < a
   ·have h3 : ¬ a = b := fun e => by subst e; exact UInt8.lt_irrefl _ h2
    simp [h1, h2, h3]
   ·have h3 : a = b := UInt8.le_antisymm (UInt8.not_lt.1 h2) (UInt8.not_lt.1 h1)
    subst h3
    simp [UInt8.lt_irrefl, ih]
theorem GW (a b : ByteArray) : sI a b < 0 ↔ RtP.bl (lst a) (lst b) = true := by rw [sI, XI, jv]; rfl
theorem GX (a b : ByteArray) : 0 < sI a b ↔ RtP.bl (lst b) (lst a) = true := by rw [sI, XJ, jv]; rfl
theorem GY (a b : ByteArray) : sI a b = 0 ↔ a = b := by
 rw [sI, XK]
 constructor
 ·intro h
  rcases a with ⟨⟨a⟩⟩; rcases b with ⟨⟨b⟩⟩
  simp at h
  rw [h]
 ·rintro rfl; rfl
theorem QG (k : Int) (s : ByteArray) (j : Int) (t : ByteArray) : stI k s j t < 0 ↔ zC k s j t = true := by
 unfold stI zC cI
 by_cases h1 : k < j
 ·simp [h1]
 ·by_cases h2 : j < k
  ·have : ¬ k = j := by omega
   simp [h1, h2, this]
  ·have : k = j := by omega
   subst this
   simp [GW]
theorem Zp (k : Int) (s : ByteArray) (j : Int) (t : ByteArray) : 0 < stI k s j t ↔ zC j t k s = true := by
 unfold stI zC cI
 by_cases h1 : k < j
 ·have h2 : ¬ j < k := by omega
  have h3 : ¬ j = k := by omega
  simp [h1, h2, h3]
 ·by_cases h2 : j < k
  ·simp [h1, h2]
  ·have : k = j := by omega
   subst this
   simp [GX]
theorem vP (k : Int) (s : ByteArray) (j : Int) (t : ByteArray) : stI k s j t = 0 ↔ k = j ∧ s = t := by
 unfold stI cI
 by_cases h1 : k < j
 ·have h3 : ¬ k = j := by omega
  simp [h1, h3]
 ·by_cases h2 : j < k
  ·have h3 : ¬ k = j := by omega
   simp [h1, h2, h3]
  ·have : k = j := by omega
   subst this
   simp [GY]
def kN (L : List CV) (t : Nat) : Nat := ((L.take t).map fun c => 64 + c.l.length).sum
def yY (L : List CV) : Bool := decide (kN L L.length ≤ 134217728)
theorem xP {L : List CV} {t : Nat} {c : CV} (h : L[t]? = some c) : kN L (t + 1) = kN L t + (64 + c.l.length) := by
 unfold kN
 rw [List.take_add_one, h, List.map_append, List.sum_append]
 simp
theorem Ka (L : List CV) : ∀ (t m : Nat), kN L t ≤ kN L (t + m)
 | t, 0 => Nat.le_refl _
 | t, m + 1 => by
  refine Nat.le_trans (Ka L t m) ?_
  cases h : L[t + m]? with
  | none =>
   have hl := List.getElem?_eq_none_iff.1 h
   unfold kN
   rw [List.take_of_length_le hl, List.take_of_length_le (by omega)]
   exact Nat.le_refl _
  | some c =>
   rw [← Nat.add_assoc, xP h]
   omega
theorem Xv (L : List CV) : ∀ t, t ≤ L.length → 64 * t ≤ kN L t
 | 0, _ => Nat.zero_le _
 | t + 1, h => by
  have ih := Xv L t (by omega)
  rw [xP (List.getElem?_eq_getElem (show t < L.length by omega))]
  omega
theorem xV {L : List CV} (h : yY L = true) : L.length ≤ 2097152 := by
 have h1 := of_decide_eq_true h
 have h2 := Xv L L.length (Nat.le_refl _)
 omega
theorem yI {L : List CV} (h : yY L = true) {t : Nat} {c : CV} (hc : L[t]? = some c) : c.l.length ≤ 134217728 := by
 have h1 := of_decide_eq_true h
 have h2 := xP hc
 have ht : t + 1 ≤ L.length := (List.getElem?_eq_some_iff.1 hc).1
 have h3 := Ka L (t + 1) (L.length - (t + 1))
 rw [show t + 1 + (L.length - (t + 1)) = L.length by omega] at h3
 omega
set_option maxRecDepth 8000 in
set_option maxHeartbeats 1000000 in
theorem XE (v : Value) (L : List CV) (w : World) (hC : CsV w.heap.size w v L) (hS : ∀ c ∈ L, c.l.length ≤ 140737488351232) (hN : L.length ≤ 3600000000000) : Calls Try.prog 4 #[v] w fun e w' => e = .returned (.bool (yY L)) ∧ w' = w := by
 obtain ⟨n, hn⟩ : ∃ z, Keep (L.length = z) := ⟨_, ⟨rfl⟩⟩
 obtain ⟨la, cap, rfl, hC'⟩ : ∃ la cap, v = .slice la n cap ∧ (0 < n → ∃ b off, la = some ⟨b, off, none⟩ ∧ CsAt w.heap.size w b off L) := by
  rcases hC with ⟨a, c, rfl, rfl⟩ | ⟨b, off, cap, rfl, h2, h3⟩
  ·exact ⟨a, c, by rw [← hn.o]; rfl, fun h => by rw [← hn.o] at h; simp at h⟩
  ·exact ⟨_, cap, by rw [hn.o], fun _ => ⟨b, off, rfl, h3⟩⟩
 have HC := kk hC'
 have HS := kk hS
 have HN : Keep (n ≤ 3600000000000) := ⟨by rw [← hn.o]; exact hN⟩
 have hN' := HN.o
 clear hC hC' hS hN
 go_enter Try.func4, Try.ntmps4
 refine wp_seq_k fun K1 hK1 => rgn (Vf (h:=WL.nil (hK1 _ _ (wp_seq_k fun K2 hK2 => rgn (Vv (.int .i64 134217728) (h:=WL.nil (hK2 _ _ (wp_seq_k fun K3 hK3 => wp_seq_k fun K4 hK4 => rgn (Vv (.int .i64 0) (h:=WL.nil (hK4 _ _ (wp_block (?_)))))))))))))
 refine wp_loop (fun ac wr => ∃ (t : Nat) (u5 u6 u7 u8 u9 u10 u11 u12 u13 u14 u15 u16 u17 u18 u19 u20 u21 u22 u23 : Value) (nn : Int), ac = { tmps := #[.slice la n cap, undef, .bool false, .int .i64 nn, .int .i64 (t : Int), u5, u6, u7, u8, u9, u10, u11, u12, u13, u14, u15, u16, u17, u18, u19, u20, u21, u22, u23, undef, undef], defers := [] } ∧ wr = w ∧ t ≤ n ∧ nn = 134217728 - (kN L t : Int) ∧ -140737488355328 ≤ nn ∧ nn ≤ 134217728) (fun a _ => n - (intOf (a.tmps.getD 4 undef)).toNat) ⟨0, undef, undef, undef, undef, undef, undef, undef, undef, undef, undef, undef, undef, undef, undef, undef, undef, undef, undef, undef, 134217728, rfl, rfl, Nat.zero_le _, by simp [kN], by omega, by omega⟩ ?_
 rintro ac wr ⟨t, u5, u6, u7, u8, u9, u10, u11, u12, u13, u14, u15, u16, u17, u18, u19, u20, u21, u22, u23, nn, rfl, hw, ht, hI⟩
 have hw := hw.symm
 subst hw
 have HI := kk hI
 clear hI
 by_cases htl : t < n
 ·have htl' : (t : Int) < (n : Int) := by omega
  by_cases hnn : 0 ≤ nn
  ·obtain ⟨b, off, hla, hcx⟩ := HC.o (by omega)
   subst hla
   have HX := kk hcx
   clear hcx
   obtain ⟨c, Hc⟩ : ∃ z, Keep (L[t]? = some z) := ⟨L[t]'(by rw [hn.o]; exact htl), ⟨List.getElem?_eq_getElem _⟩⟩
   obtain ⟨ra, rc, hrv⟩ := qR (HX.o.row c (List.mem_of_getElem? Hc.o)).1
   have c2 : w.cell? ⟨b, off + t * 3 + 2, none⟩ = some (.slice ra c.l.length rc) := by rw [← hrv]; exact (HX.o.c Hc.o).2.2
   have HSz : Keep (c.l.length ≤ 140737488351232) := ⟨HS.o c (List.mem_of_getElem? Hc.o)⟩
   have hw1 : IntKind.i64.wrap (64 + (c.l.length : Int)) = 64 + (c.l.length : Int) := by rw [IntKind.wrap_i64]; have := HSz.o; omega
   have hw2 : IntKind.i64.wrap (nn - (64 + (c.l.length : Int))) = nn - (64 + (c.l.length : Int)) := by rw [IntKind.wrap_i64]; have := HSz.o; have := HI.o; omega
   have hw3 : IntKind.i64.wrap ((t : Int) + 1) = ((t + 1 : Nat) : Int) := by rw [IntKind.wrap_i64]; omega
   refine wp_seq_k fun K5 hK5 => wp_seq_k fun K6 hK6 => rgn (Vv (.int .i64 (t : Int)) (h:=Vv (.slice (some ⟨b, off, none⟩) n cap) (h:=Vv (.int .i64 (n : Int)) (h:=Vt (h:=Vt (h:=Vv (.int .i64 nn) (h:=Vt (h:=Vt (h:=WL.nil (hK6 _ _ (Ct (h:=wp_skip (hK5 _ _ (wp_seq_k fun K7 hK7 => ?_))))))))))))))
   refine wp_block (rgn (Vv (.int .i64 nn) (h:=Vv (.slice (some ⟨b, off, none⟩) n cap) (h:=Vv (.int .i64 (t : Int)) (h:=Vv (.pointer (some ⟨b, off + t * 3, none⟩)) (h:=Vv (.pointer (some ⟨b, off + t * 3 + 2, none⟩)) (h:=Vv (.slice ra c.l.length rc) (h:=Vv (.int .i64 (c.l.length : Int)) (h:=Vv (.int .i64 (64 + (c.l.length : Int))) (h:=Vv (.int .i64 (nn - (64 + (c.l.length : Int)))) (h:=Vv (.int .i64 (nn - (64 + (c.l.length : Int)))) (h:=WL.nil (hK7 _ _ (rgn (?_)))))))))))))))
   refine Vv (.int .i64 (t : Int)) (h:=Vv (.int .i64 ((t + 1 : Nat) : Int)) (h:=Vv (.int .i64 ((t + 1 : Nat) : Int)) (h:=?_)))
   refine WL.nil ?_
   refine ⟨⟨t + 1, .int .i64 (t : Int), .slice (some ⟨b, off, none⟩) n cap, .int .i64 (n : Int), .bool true, .bool true, .int .i64 nn, .bool true, .bool true, .int .i64 (t : Int), .int .i64 ((t + 1 : Nat) : Int), .int .i64 nn, .slice (some ⟨b, off, none⟩) n cap, .int .i64 (t : Int), .pointer (some ⟨b, off + t * 3, none⟩), .pointer (some ⟨b, off + t * 3 + 2, none⟩), .slice ra c.l.length rc, .int .i64 (c.l.length : Int), .int .i64 (64 + (c.l.length : Int)), .int .i64 (nn - (64 + (c.l.length : Int))), nn - (64 + (c.l.length : Int)), rfl, rfl, by omega, ?_, by have := HI.o; have := HSz.o; omega, by have := HI.o; omega⟩, by simp [intOf]; omega⟩
   rw [xP Hc.o]
   have := HI.o.1
   omega
  ·refine wp_seq_k fun K8 hK8 => wp_seq_k fun K9 hK9 => rgn (Vv (.int .i64 (t : Int)) (h:=Vv (.slice la n cap) (h:=Vv (.int .i64 (n : Int)) (h:=Vt (h:=Vt (h:=Vv (.int .i64 nn) (h:=Vf (h:=Vf (h:=WL.nil (hK9 _ _ (Cf (h:=wp_exit (hK3 _ _ (wp_seq_k fun K10 hK10 => rgn (?_)))))))))))))))
   refine Vv (.int .i64 nn) (h:=Vf (h:=Vf (h:=WL.nil (hK10 _ _ (wp_ret ?_)))))
   have hb : yY L = false := by
    have h1 := HI.o.1
    have h2 := Ka L t (n - t)
    rw [show t + (n - t) = n by omega] at h2
    unfold yY
    rw [hn.o, decide_eq_false_iff_not]
    omega
   go_ret
   exact ⟨by rw [hb]; rfl, rfl⟩
 ·have htl' : ¬ (t : Int) < (n : Int) := by omega
  have hte : t = n := by have := HI.o; omega
  refine wp_seq_k fun K11 hK11 => wp_seq_k fun K12 hK12 => rgn (Vv (.int .i64 (t : Int)) (h:=Vv (.slice la n cap) (h:=Vv (.int .i64 (n : Int)) (h:=Vf (h:=Vf (h:=Vs (h:=Vs (h:=Vf (h:=WL.nil (hK12 _ _ (Cf (h:=wp_exit (hK3 _ _ (wp_seq_k fun K13 hK13 => rgn (?_)))))))))))))))
  refine Vv (.int .i64 nn) (h:=Vv (.bool (decide (0 ≤ nn))) (h:=Vv (.bool (decide (0 ≤ nn))) (h:=WL.nil (hK13 _ _ (wp_ret ?_)))))
  have hb : yY L = decide (0 ≤ nn) := by
   have h1 := HI.o.1
   unfold yY
   rw [hn.o, decide_eq_decide]
   rw [hte] at h1
   omega
  go_ret
  exact ⟨by rw [hb]; rfl, rfl⟩
end Go.Proofs.Ytdpcjfafbmhceaa
namespace Go.Proofs.Ytdpcjfafbmhceaa
open Go.RowKit
def jF (t : Nat) : List Int := (List.range t).map fun i : Nat => 192 + (i : Int)
theorem jl (t : Nat) : (jF t).length = t := by simp [jF]
theorem QV (t : Nat) : jF (t + 1) = jF t ++ [192 + (t : Int)] := by simp [jF, List.range_succ]
def WideAt (w : World) (v : Value) (l : List Int) : Prop :=
 ∃ g cap, v = .slice (some ⟨g, 0, none⟩) l.length cap ∧ Own w (.slice (some ⟨g, 0, none⟩) (l ++ jF 7).length cap) (l ++ jF 7)
theorem WideAt.cap {w : World} {v : Value} {l : List Int} (h : WideAt w v l) : ∃ g cap, v = .slice (some ⟨g, 0, none⟩) l.length cap ∧ l.length + 7 ≤ cap ∧ cap ≤ maxLen ∧ (∀ i, i < l.length + 7 → w.cell? ⟨g, i, none⟩ = some (.int .u8 ((l ++ jF 7).getD i 0))) ∧ ∃ cur, Blk w g 5 cur ∧ cur.size = cap := by
 obtain ⟨g, cap, rfl, h2⟩ := h
 rcases h2.form with ⟨e, _⟩ | ⟨g', cap', cur, e, hb, h3, h4, h5, h6⟩
 ·cases e
 ·injection e with e1 e2 e3
  injection e1 with e1
  injection e1 with e1
  subst e1 e3
  refine ⟨g, cap, rfl, by rw [List.length_append, jl] at h3; exact h3, h4, fun i hi => ?_, cur, hb, h5⟩
  rw [World.ownsRow.cellAt h2 i (by rw [List.length_append, jl]; omega), jP _ _ (by rw [List.length_append, jl]; omega)]
theorem WideAt.row {w : World} {v : Value} {l : List Int} (h : WideAt w v l) : RowAt w v l := by
 obtain ⟨g, cap, rfl, h1, _, h2, _⟩ := h.cap
 refine .inr (.inr ⟨g, 0, cap, rfl, by omega, fun i hi => ?_⟩)
 rw [Nat.zero_add, h2 i (by omega)]
 simp [List.getD_eq_getElem?_getD, List.getElem?_append, hi]
theorem WideAt.grown {w w' : World} {v : Value} {l : List Int} {S : Nat → Prop} (h : WideAt w v l) (hg : Grown w w' S) (hs : ∀ k, v.ownBlock = some k → ¬ S k) : WideAt w' v l := by
 obtain ⟨g, cap, rfl, h2⟩ := h
 exact ⟨g, cap, rfl, h2.grown hg fun k hk => hs k hk⟩
set_option maxRecDepth 8000 in
set_option maxHeartbeats 1000000 in
theorem Kz (v : Value) (l : List Int) (w : World) (hr : RowAt w v l) (hb : l.length + 7 ≤ 140737488355328) :
  Calls Try.prog 22 #[v] w fun e w' => ∃ v', e = .returned v' ∧ WideAt w' v' l ∧ (∃ k, v'.ownBlock = some k ∧ w.heap.size ≤ k) ∧ Below w.heap.size w w' := by
 have HR := kk (hr.below (qg w (.cells (qb (l.length + 7) fun _ => 0) 5)))
 have HB := kk hb
 obtain ⟨xa, xc, rfl⟩ := qR hr
 have h7 : ((l.length : Int) + 7) = ((l.length + 7 : Nat) : Int) := by omega
 have hsm : (l.length : Int) ≤ 9223372036854775800 := by omega
 have hO0 : Own (w.alloc (.cells (qb (l.length + 7) fun _ => 0) 5)) (.slice (some ⟨w.heap.size, 0, none⟩) 0 (l.length + 7)) [] :=
  Own.mk (Blk.new w 5 _) (by simp) (by unfold maxLen; omega) (by rw [qB]) (by simp [bv])
 have HO0 := kk hO0
 have hmk := Jh 0 (l.length + 7) (by omega) (by omega) w
 have hmk2 : (Instr.makeSlice 42 (.int .i64 0) (.int .i64 ((l.length : Int) + 7))).run Try.prog w = .ok (.slice (some ⟨w.heap.size, 0, none⟩) 0 (l.length + 7)) (w.alloc (.cells (qb (l.length + 7) fun _ => 0) 5)) := by rw [h7]; exact hmk
 have HBe := kk (qg w (.cells (qb (l.length + 7) fun _ => 0) 5))
 clear hr hb hmk hO0 h7
 go_enter Try.func22, Try.ntmps22
 generalize w.alloc (.cells (qb (l.length + 7) fun _ => 0) 5) = w1 at *
 go_wp2_with (first | (at_builtin; refine jh rfl (.tmp 9) (.tmp 10) rfl (.slice (some ⟨w.heap.size, 0, none⟩) 0 (l.length + 7)) _ [] l rfl rfl HO0.out HR.out (by have := HB.out; simp; omega) ?_; intro v' w' hp; refine Hid.out ?_))
 refine zp ?_
 have hfree := Jy (v := .slice (some ⟨w.heap.size, 0, none⟩) 0 (l.length + 7)) (B := w.heap.size) ⟨w.heap.size, rfl, Nat.le_refl _⟩ HBe.out.size hp
 have HP : Keep (Own w' v' (l ++ jF 0) ∧ (∃ k, v'.ownBlock = some k ∧ w.heap.size ≤ k) ∧ Below w.heap.size w w') := ⟨by simpa [jF] using hp.1, hfree.1, HBe.out.trans hfree.2⟩
 clear hp hfree hmk2
 go_wp2
 go_loopw [3, 4] (fun b i wr => ∃ (t : Nat), t ≤ 7 ∧ i = .int .i64 t ∧ Own wr b (l ++ jF t) ∧ (∃ k, b.ownBlock = some k ∧ w.heap.size ≤ k) ∧ Below w.heap.size w wr) (fun _ i _ => 7 - (intOf i).toNat)
 case atStart => exact ⟨0, by omega, rfl, HP.out.1, HP.out.2.1, HP.out.2.2⟩
 case round =>
  rename_i b i wr
  obtain ⟨t, ht, rfl, hO, hk, hBl⟩ := hrel
  by_cases hlt : t < 7
  ·have hlt' : (t : Int) < 7 := by omega
   have HO1 := kk (hO.box (.cells #[.int .u8 (192 + (t : Int))] 5))
   have hlen : Keep ((l ++ jF t).length + [192 + (t : Int)].length ≤ 140737488355328) := ⟨by have := HB.out; simp [jl]; omega⟩
   have HK := kk hk
   have HBl := kk hBl
   clear hO hk hBl HP
   go_wp2_with (first | (at_builtin; refine jh rfl (.tmp 16) (.tmp 20) rfl _ (.slice (some ⟨wr.heap.size, 0, none⟩) 1 1) (l ++ jF t) [192 + (t : Int)] rfl rfl HO1.out (jb wr _) hlen.out ?_; intro v2 w2 hp; refine Hid.out ?_))
   refine zp ?_
   have hbox := qg wr (.cells #[.int .u8 (192 + (t : Int))] 5)
   have hfree := Jy HK.out (Nat.le_trans HBl.out.size hbox.size) hp
   have HN : Keep (Own w2 v2 (l ++ jF (t + 1)) ∧ (∃ k, v2.ownBlock = some k ∧ w.heap.size ≤ k) ∧ Below w.heap.size w w2) :=
    ⟨by rw [QV, ← List.append_assoc]; exact hp.1, hfree.1, (HBl.out.trans (hbox.mono HBl.out.size)).trans hfree.2⟩
   clear hp hbox hfree
   go_wp2
   go_roundw
   case rel => exact ⟨t + 1, by omega, by go_num, HN.out.1, HN.out.2.1, HN.out.2.2⟩
   case measure => simp only [intOf]; omega
  ·obtain rfl : t = 7 := by omega
   rcases hO.form with ⟨_, e⟩ | ⟨g, cap, cur, rfl, hb, h3, h4, h5, h6⟩
   ·have := congrArg List.length e; simp [jl] at this
   ·have hcap : l.length ≤ cap := by rw [List.length_append, jl] at h3; omega
    have hcap' : (l.length : Int) ≤ (cap : Int) := by omega
    have HO1 := kk hO
    have HBl := kk hBl
    have HK := kk hk
    clear hO hBl hb h3 h4 h5 h6 hk HP
    go_wp2
    go_ret
    exact ⟨_, rfl, ⟨g, cap, rfl, HO1.out⟩, HK.out, HBl.out⟩
set_option maxRecDepth 8000 in
set_option maxHeartbeats 1000000 in
theorem KV (v vb : Value) (l : List Int) (w : World) (hv : WideAt w v l) (hr : RowAt w vb l) (hb : l.length + 7 ≤ 140737488355328) :
  Calls Try.prog 34 #[v, vb] w fun e w' => e = .returned (.bool true) ∧ w' = w := by
 have hc1 := jo v l w hv.row
 have hc2 := jo vb l w hr
 obtain ⟨g, cap, rfl, hcap, hm, hcell, _⟩ := hv.cap
 obtain ⟨xa, xc, rfl⟩ := qR hr
 have HC := kk hcell
 have hcap' : (l.length : Int) + 7 ≤ (cap : Int) := by omega
 have h7 : ((l.length : Int) + 7).toNat = l.length + 7 := by omega
 have hsm : (l.length : Int) ≤ 9223372036854775000 := by omega
 obtain ⟨s, hs⟩ : ∃ s, Keep (s = strOfNums l) := ⟨_, ⟨rfl⟩⟩
 rw [← hs.o] at hc1 hc2
 clear hv hr hb hcell hm
 go_enter Try.func34, Try.ntmps34
 go_wp2
 go_loop [6] (fun i => ∃ t : Nat, t ≤ 7 ∧ i = .int .i64 t) (fun i => 7 - (intOf i).toNat)
 case atStart => exact ⟨0, by omega, rfl⟩
 case round =>
  obtain ⟨t, ht, rfl⟩ := hrel
  by_cases hlt : t < 7
  ·have hlt' : (t : Int) < 7 := by omega
   have cc : w.cell? ⟨g, l.length + t, none⟩ = some (.int .u8 (192 + (t : Int))) := by
    rw [HC.o _ (by omega)]
    simp [List.getD_eq_getElem?_getD, jF, hlt]
   go_wp2
   refine ⟨⟨t + 1, by omega, by go_num⟩, by simp only [intOf]; omega⟩
  ·obtain rfl : t = 7 := by omega
   go_wp2
   go_ret
   exact ⟨rfl, rfl⟩
def FullAt (w : World) (v : Value) (m : Int) : Prop := ∃ n, RowAt w v (List.replicate n m) ∧ n ≤ 140737488355328
set_option maxRecDepth 8000 in
set_option maxHeartbeats 1000000 in
theorem KW (v : Value) (m : Int) (w : World) (h : FullAt w v m) :
  Calls Try.prog 39 #[v, .int .u8 m] w fun e w' => e = .returned (.bool true) ∧ w' = w := by
 obtain ⟨n, hr, hb⟩ := h
 have hf := qR hr
 rw [List.length_replicate] at hf
 obtain ⟨xa, xc, rfl⟩ := hf
 have HR := kk hr
 have hsm : (n : Int) ≤ 9223372036854775000 := by omega
 clear hr hb
 go_enter Try.func39, Try.ntmps39
 go_wp2
 go_loop [5] (fun i => ∃ t : Nat, t ≤ n ∧ i = .int .i64 t) (fun i => n - (intOf i).toNat)
 case atStart => exact ⟨0, by omega, rfl⟩
 case round =>
  obtain ⟨t, ht, rfl⟩ := hrel
  by_cases hlt : t < n
  ·have hlt' : (t : Int) < (n : Int) := by omega
   rcases HR.o with ⟨e1, e2⟩ | ⟨_, _, e1, e2⟩ | ⟨b, off, cap, e1, hcap, hc⟩
   ·have := congrArg List.length e2; simp at this; omega
   ·have := congrArg List.length e2; simp at this; omega
   ·injection e1 with e1 e2 e3
    subst e1
    have cc : w.cell? ⟨b, off + t, none⟩ = some (.int .u8 m) := by
     rw [hc t (by simpa using hlt)]
     simp [List.getD_eq_getElem?_getD, hlt]
    clear hc e2 e3
    go_wp2
    refine ⟨⟨t + 1, by omega, by go_num⟩, by simp only [intOf]; omega⟩
  ·obtain rfl : t = n := by omega
   have hlt' : ¬ ((t : Int) < (t : Int)) := by omega
   go_wp2
   go_ret
   exact ⟨rfl, rfl⟩
theorem FullAt.grown {w w' : World} {v : Value} {m : Int} {S : Nat → Prop} (h : FullAt w v m) (hg : Grown w w' S) (hs : ∀ b, v.ownBlock = some b → ¬ S b) : FullAt w' v m := by
 obtain ⟨n, h1, h2⟩ := h
 exact ⟨n, h1.grown hg fun b hb _ => hs b hb, h2⟩
def mark (i : Nat) : Int := 1 + ((i % 250 : Nat) : Int)
structure BkL (w : World) (lv gv : Value) (N : Nat) (A B : Nat → Value) (F : Nat → Prop) : Prop where
 l : OwnV w lv ((List.range N).map A)
 g : OwnV w gv ((List.range N).map B)
 fa : ∀ i, i < N → FullAt w (A i) (mark i)
 fb : ∀ i, i < N → FullAt w (B i) (mark i)
 F1 : ∀ k, lv.ownBlock = some k → F k
 F2 : ∀ k, gv.ownBlock = some k → F k
 F3 : ∀ i, i < N → ∀ k, (A i).ownBlock = some k → F k
 F4 : ∀ i, i < N → ∀ k, (B i).ownBlock = some k → F k
 ne : ∀ k, lv.ownBlock = some k → gv.ownBlock ≠ some k
 ta : ∀ i, i < N → ∀ k, (A i).ownBlock = some k → Typ w k 5
 tb : ∀ i, i < N → ∀ k, (B i).ownBlock = some k → Typ w k 5
theorem BkL.grown {w w' : World} {lv gv : Value} {N : Nat} {A B : Nat → Value} {F S : Nat → Prop} (h : BkL w lv gv N A B F) (hg : Grown w w' S) (hs : ∀ k, F k → ¬ S k) : BkL w' lv gv N A B F where
 l := h.l.grown hg fun k hk => hs k (h.F1 k hk)
 g := h.g.grown hg fun k hk => hs k (h.F2 k hk)
 fa i hi := (h.fa i hi).grown hg fun k hk => hs k (h.F3 i hi k hk)
 fb i hi := (h.fb i hi).grown hg fun k hk => hs k (h.F4 i hi k hk)
 F1 := h.F1
 F2 := h.F2
 F3 := h.F3
 F4 := h.F4
 ne := h.ne
 ta i hi k hk := hg.typ (h.ta i hi k hk) (hs k (h.F3 i hi k hk))
 tb i hi k hk := hg.typ (h.tb i hi k hk) (hs k (h.F4 i hi k hk))
theorem BkL.nil (w : World) (A B : Nat → Value) (F : Nat → Prop) : BkL w (.slice none 0 0) (.slice none 0 0) 0 A B F where
 l := KO w
 g := KO w
 fa i hi := by omega
 fb i hi := by omega
 F1 k hk := by simp [Value.ownBlock] at hk
 F2 k hk := by simp [Value.ownBlock] at hk
 F3 i hi := by omega
 F4 i hi := by omega
 ne k hk := by simp [Value.ownBlock] at hk
 ta i hi := by omega
 tb i hi := by omega
structure Box (off : Nat) (kx : Value → Value → Int → Array Value) : Prop where
 g0 : ∀ a b n, (kx a b n)[off]? = some a
 g1 : ∀ a b n, (kx a b n)[off + 1]? = some b
 g2 : ∀ a b n, (kx a b n)[off + 2]? = some (.int .i64 n)
 g3 : ∀ a b n, (kx a b n)[off + 3]? = some (.bool false)
 s0 : ∀ a b n x, (kx a b n).setIfInBounds off x = kx x b n
 s1 : ∀ a b n x, (kx a b n).setIfInBounds (off + 1) x = kx a x n
 s2 : ∀ a b n x, (kx a b n).setIfInBounds (off + 2) (.int .i64 x) = kx a b x
 s3 : ∀ a b n, (kx a b n).setIfInBounds (off + 3) (.bool false) = kx a b n
set_option maxRecDepth 8000 in
set_option maxHeartbeats 1000000 in
theorem yQ (kb off T : Nat) (kx : Value → Value → Int → Array Value) (hx : Box off kx) (lv gv : Value) (N : Nat) (A B : Nat → Value) (n : Int) (F : Nat → Prop) (w : World) (hk : Blk w kb T (kx lv gv n)) (h : BkL w lv gv N A B F) (hN : N ≤ 20000) :
  Calls Try.prog 17 #[.pointer (some ⟨kb, off, none⟩)] w fun e w' => e = .returned (.bool true) ∧ w' = w := by
 have HL := kk h
 obtain ⟨la, lc, e1⟩ := h.l.sl
 obtain ⟨ga, gc, e2⟩ := h.g.sl
 simp only [List.length_map, List.length_range] at e1 e2
 subst e1 e2
 have c0 : w.cell? ⟨kb, off, none⟩ = some (.slice la N lc) := by rw [hk.cell, hx.g0]
 have c1 : w.cell? ⟨kb, off + 1, none⟩ = some (.slice ga N gc) := by rw [hk.cell, hx.g1]
 have c3 : w.cell? ⟨kb, off + 3, none⟩ = some (.bool false) := by rw [hk.cell, hx.g3]
 have hN' : (N : Int) ≤ 20000 := by omega
 clear h hk hN
 go_enter Try.func17, Try.ntmps17
 go_wp2
 go_loop [3] (fun i => ∃ t : Nat, t ≤ N ∧ i = .int .i64 t) (fun i => N - (intOf i).toNat)
 case atStart => exact ⟨0, by omega, rfl⟩
 case round =>
  obtain ⟨t, ht, rfl⟩ := hrel
  by_cases hlt : t < N
  ·have hlt' : (t : Int) < (N : Int) := by omega
   obtain ⟨lb, lc', e1, d1⟩ := HL.o.l.at t (by simpa using hlt)
   obtain ⟨gb, gc', e2, d2⟩ := HL.o.g.at t (by simpa using hlt)
   simp only [List.length_map, List.length_range] at e1 e2
   injection e1 with e1 _ _
   injection e2 with e2 _ _
   subst e1 e2
   have d1' : w.cell? ⟨lb, t, none⟩ = some (A t) := by rw [d1]; simp [hlt]
   have d2' : w.cell? ⟨gb, t, none⟩ = some (B t) := by rw [d2]; simp [hlt]
   have FA := kk (HL.o.fa t hlt)
   have FB := kk (HL.o.fb t hlt)
   have hm : 1 + (t : Int) % 250 = mark t := by unfold mark; omega
   have hm1 : 0 ≤ mark t := by unfold mark; omega
   have hm2 : mark t < 256 := by unfold mark; omega
   obtain ⟨mm, hmm⟩ : ∃ mm, Keep (mm = mark t) := ⟨_, ⟨rfl⟩⟩
   rw [← hmm.o] at FA FB hm hm1 hm2
   clear d1 d2
   go_wp2_with fail
   refine (KW (A t) mm _ FA.o).mono ?_
   rintro e w' ⟨rfl, rfl⟩
   go_wp2_with fail
   refine (KW (B t) mm _ FB.o).mono ?_
   rintro e w' ⟨rfl, rfl⟩
   go_wp2
   refine ⟨⟨t + 1, by omega, by go_num⟩, by simp only [intOf]; omega⟩
  ·obtain rfl : t = N := by omega
   have hlt' : ¬ ((t : Int) < (t : Int)) := by omega
   go_wp2
   go_ret
   exact ⟨rfl, rfl⟩
theorem Zy {w : World} {v g1 : Value} {n k : Nat} {m : Int} {va : Option Addr} {vc : Nat} (hv : v = .slice va n vc) (h0 : ∀ a, va = some a → a.off = 0 ∧ a.spot = none) (hnv : va = none → n = 0 ∧ vc = 0) (hle : n ≤ vc) (h : OwnT w g1 (List.replicate (n + k) m)) (he : g1.ownBlock = v.ownBlock) : RowAt w v (List.replicate n m) := by
 subst hv
 cases va with
 | none => obtain ⟨rfl, rfl⟩ := hnv rfl; exact .inl ⟨rfl, rfl⟩
 | some a =>
  obtain ⟨h1, h2⟩ := h0 a rfl
  obtain ⟨b, o, sp⟩ := a
  simp only at h1 h2
  subst h1 h2
  refine .inr (.inr ⟨b, 0, vc, by simp, by simpa using hle, fun i hi => ?_⟩)
  simp only [List.length_replicate] at hi
  have h5 := h
  rcases h5 with ⟨e, e2⟩ | ⟨g', cap', cur, fz, e, hb, _⟩
  ·have := congrArg List.length e2; simp at this; omega
  ·rw [e] at he h
   simp [Value.ownBlock] at he
   subst he
   have := (h.cells i (by simp; omega)).1
   rw [Nat.zero_add, this]
   simp [List.getD_eq_getElem?_getD, hi, show i < n + k by omega]
def BookIn (kb T : Nat) (kx : Value → Value → Int → Array Value) (F : Nat → Prop) (w : World) : Prop :=
 ∃ lv gv N A B n, Blk w kb T (kx lv gv n) ∧ BkL w lv gv N A B F ∧ N ≤ 20000 ∧ 0 ≤ n ∧ n < 16777216 + 140737488355328
def Kw (kb T : Nat) (kx : Value → Value → Int → Array Value) (vb : Value) (F : Nat → Prop) (w : World) (e : Ending) (w' : World) : Prop :=
 e = .returned (.tuple #[]) ∧ BookIn kb T kx (fun k => F k ∨ vb.ownBlock = some k ∨ (w.heap.size ≤ k ∧ k < w'.heap.size)) w' ∧ Grown w w' fun k => k = kb ∨ F k ∨ vb.ownBlock = some k
theorem BkL.push {w w5 w7 : World} {lv gv lv2 gv2 u u2 : Value} {N kb T : Nat} {A B : Nat → Value} {F F' : Nat → Prop} {ck ck5 : Array Value} (h : BkL w lv gv N A B F) (hk : Blk w kb T ck) (hk5 : Blk w5 kb T ck5) (hT5 : T ≠ 5) (hT36 : T ≠ 42)
  (o1 : OwnV w5 lv2 ((List.range N).map A ++ [u])) (m1 : Moved w lv lv2) (g1 : Grown w w5 fun k => k = kb ∨ lv.ownBlock = some k)
  (o2 : OwnV w7 gv2 ((List.range N).map B ++ [u2])) (m2 : Moved w5 gv gv2) (g2 : Grown w5 w7 fun k => k = kb ∨ gv.ownBlock = some k)
  (f1 : FullAt w u (mark N)) (f2 : FullAt w u2 (mark N)) (t1 : ∀ k, u.ownBlock = some k → Typ w k 5) (t2 : ∀ k, u2.ownBlock = some k → Typ w k 5)
  (hF : ∀ k, F k → F' k) (hF1 : ∀ k, w.heap.size ≤ k → k < w7.heap.size → F' k) (hu : ∀ k, u.ownBlock = some k → F' k) (hu2 : ∀ k, u2.ownBlock = some k → F' k) :
  BkL w7 lv2 gv2 (N + 1) (QF A N u) (QF B N u2) F' := by
 have nkl : lv.ownBlock ≠ some kb := h.l.ne hk hT36
 have nkg : gv.ownBlock ≠ some kb := h.g.ne hk hT36
 -- a block of bytes of w is one of w7
 have data : ∀ k, Typ w k 5 → ¬ (k = kb ∨ lv.ownBlock = some k) ∧ ¬ (k = kb ∨ gv.ownBlock = some k) := by
  intro k hc
  have a1 : k ≠ kb := hc.ne hk.typ (Ne.symm hT5)
  refine ⟨?_, ?_⟩
  ·rintro (e | e)
   ·exact a1 e
   ·exact absurd (hc.one (h.l.typ e)) (by decide)
  ·rintro (e | e)
   ·exact a1 e
   ·exact absurd (hc.one (h.g.typ e)) (by decide)
 have full7 : ∀ v m, FullAt w v m → (∀ k, v.ownBlock = some k → Typ w k 5) → FullAt w7 v m := fun v m hf ht =>
  (hf.grown g1 fun k hk => (data k (ht k hk)).1).grown g2 fun k hk => (data k (ht k hk)).2
 have blk7 : ∀ k, Typ w k 5 → Typ w7 k 5 := fun k hk => g2.typ (g1.typ hk (data k hk).1) (data k hk).2
 have glt : ∀ k, gv.ownBlock = some k → k < w.heap.size := h.g.lt
 have ne2 : ∀ k, lv2.ownBlock = some k → gv.ownBlock ≠ some k := fun k hk e => by
  have := glt k e
  exact h.ne k (m1.old this hk) e
 have nk2 : lv2.ownBlock ≠ some kb := o1.ne hk5 hT36
 have hs7 : w.heap.size ≤ w7.heap.size := Nat.le_trans g1.size g2.size
 refine ⟨?_, ?_, ?_, ?_, ?_, ?_, ?_, ?_, ?_, ?_, ?_⟩
 ·rw [Jo]
  exact o1.grown g2 fun k hq e => by
   rcases e with e | e
   ·exact nk2 (e ▸ hq)
   ·exact ne2 k hq e
 ·rw [Jo]; exact o2
 ·intro i hi
  by_cases e : i = N
  ·subst e; rw [ji]; exact full7 _ _ f1 t1
  ·rw [xi _ _ e]; exact full7 _ _ (h.fa i (by omega)) (h.ta i (by omega))
 ·intro i hi
  by_cases e : i = N
  ·subst e; rw [ji]; exact full7 _ _ f2 t2
  ·rw [xi _ _ e]; exact full7 _ _ (h.fb i (by omega)) (h.tb i (by omega))
 ·intro k hk
  by_cases hlt : k < w.heap.size
  ·exact hF k (h.F1 k (m1.old hlt hk))
  ·exact hF1 k (by omega) (Nat.lt_of_lt_of_le (o1.lt k hk) g2.size)
 ·intro k hk
  by_cases hlt : k < w.heap.size
  ·exact hF k (h.F2 k (m2.old (Nat.lt_of_lt_of_le hlt g1.size) hk))
  ·exact hF1 k (by omega) (o2.lt k hk)
 ·intro i hi
  by_cases e : i = N
  ·subst e; rw [ji]; exact hu
  ·rw [xi _ _ e]; exact fun k hk => hF k (h.F3 i (by omega) k hk)
 ·intro i hi
  by_cases e : i = N
  ·subst e; rw [ji]; exact hu2
  ·rw [xi _ _ e]; exact fun k hk => hF k (h.F4 i (by omega) k hk)
 ·intro k hk e
  have hlt := o1.lt k hk
  exact ne2 k hk (m2.old hlt e)
 ·intro i hi
  by_cases e : i = N
  ·subst e; rw [ji]; exact fun k hk => blk7 k (t1 k hk)
  ·rw [xi _ _ e]; exact fun k hk => blk7 k (h.ta i (by omega) k hk)
 ·intro i hi
  by_cases e : i = N
  ·subst e; rw [ji]; exact fun k hk => blk7 k (t2 k hk)
  ·rw [xi _ _ e]; exact fun k hk => blk7 k (h.tb i (by omega) k hk)
structure G2 (wL : World) (vb g : Value) (n t : Nat) (m : Int) (w : World) : Prop where
 own : OwnT w g (List.replicate (n + t) m)
 row : RowAt w vb (List.replicate n m)
 typ : ∀ k, vb.ownBlock = some k → Typ w k 5
 pos : g.ownBlock = vb.ownBlock ∨ ∃ k, g.ownBlock = some k ∧ wL.heap.size ≤ k
 gr : Grown wL w fun k => vb.ownBlock = some k
theorem G2.next {wL wx w' : World} {vb g v' : Value} {n t : Nat} {m : Int} {va : Option Addr} {vc : Nat} {l0 : List Int} (h : G2 wL vb g n t m wx) (hv : vb = .slice va n vc) (hO : OwnT wL vb l0) (o : Obj) (hp : AppPostT (wx.alloc o) g (List.replicate (n + t) m ++ [m]) v' w') : G2 wL vb v' n (t + 1) m w' := by
 have hO' := hO
 rw [hv] at hO'
 obtain ⟨p1, p2, p3, _⟩ := hO'.plain
 have hown : OwnT w' v' (List.replicate (n + (t + 1)) m) := by
  have e : List.replicate (n + (t + 1)) m = List.replicate (n + t) m ++ [m] := by rw [← Nat.add_assoc, List.replicate_succ']
  rw [e]; exact hp.1
 have hgL : Grown wL (wx.alloc o) fun k => vb.ownBlock = some k := h.gr.next (Grown.alloc wx o fun _ => False) fun _ _ h => h.elim
 have hrow : RowAt (wx.alloc o) vb (List.replicate n m) := h.row.below (qg wx o)
 have hgr : Grown wL w' fun k => vb.ownBlock = some k := hgL.next hp.grown fun i hi e => by
  rcases h.pos with h1 | ⟨k, h1, h2⟩
  ·rw [← h1]; exact e
  ·rw [h1] at e; injection e with e; omega
 have htyp : ∀ k, vb.ownBlock = some k → Typ (wx.alloc o) k 5 := fun k hk => (Grown.alloc wx o fun _ => False).typ (h.typ k hk) fun h => h
 rcases hp.2 with ⟨e1, g1⟩ | ⟨e1, g1⟩
 ·by_cases hs : g.ownBlock = vb.ownBlock
  ·exact ⟨hown, Zy hv p1 p2 p3 hown (e1.trans hs), fun k hk => hown.typ ((e1.trans hs).trans hk), .inl (e1.trans hs), hgr⟩
  ·refine ⟨hown, hrow.grown g1 fun b hb _ e => hs (e.trans hb.symm), fun k hk => g1.typ (htyp k hk) fun e => hs (e.trans hk.symm), ?_, hgr⟩
   rcases h.pos with h1 | h1
   ·exact absurd h1 hs
   ·rw [e1]; exact .inr h1
 ·exact ⟨hown, hrow.below g1, fun k hk => (gF g1).typ (htyp k hk) fun h => h, .inr ⟨_, e1, hgL.size⟩, hgr⟩
theorem yX (l : List Int) (t : Nat) (m : Int) (h : t < l.length) : (List.replicate t m ++ l.drop t).set t m = List.replicate (t + 1) m ++ l.drop (t + 1) := by
 apply List.ext_getElem?
 intro i
 rw [List.getElem?_set]
 simp only [List.getElem?_append, List.length_append, List.length_replicate, List.length_drop, List.getElem?_replicate, List.getElem?_drop]
 by_cases h1 : t = i
 ·subst h1
  rw [if_pos rfl, if_pos (by omega), if_pos (by omega), if_pos (by omega)]
 ·rw [if_neg h1]
  by_cases h2 : i < t
  ·rw [if_pos h2, if_pos h2, if_pos (by omega), if_pos (by omega)]
  ·rw [if_neg h2, if_neg (by omega), show t + (i - t) = t + 1 + (i - (t + 1)) by omega]
set_option maxRecDepth 8000 in
set_option maxHeartbeats 1000000 in
theorem VP (kb off T : Nat) (kx : Value → Value → Int → Array Value) (hx : Box off kx) (hT5 : T ≠ 5) (hT36 : T ≠ 42) (lv gv : Value) (N : Nat) (A B : Nat → Value) (n : Int) (F : Nat → Prop) (vb : Value) (lb : List Int) (w : World)
  (hk : Blk w kb T (kx lv gv n)) (h : BkL w lv gv N A B F) (hN : N ≤ 20000) (hn0 : 0 ≤ n) (hn1 : n < 16777216 + 140737488355328) (hF : ¬ F kb) (hvb : OwnT w vb lb) (hsep : ∀ k, vb.ownBlock = some k → ¬ F k) (hb : lb.length + 60 ≤ 140737488355328) :
  Calls Try.prog 16 #[.pointer (some ⟨kb, off, none⟩), vb] w (Kw kb T kx vb F w) := by
 obtain ⟨la, lc, e1⟩ := h.l.sl
 obtain ⟨ga, gc, e2⟩ := h.g.sl
 simp only [List.length_map, List.length_range] at e1 e2
 subst e1 e2
 obtain ⟨va, vc, e3⟩ := qR hvb.row
 subst e3
 have hvk : (Value.slice va lb.length vc).ownBlock ≠ some kb := hvb.ne hk hT5
 have c0 : w.cell? ⟨kb, off, none⟩ = some (.slice la N lc) := by rw [hk.cell, hx.g0]
 have c1 : w.cell? ⟨kb, off + 1, none⟩ = some (.slice ga N gc) := by rw [hk.cell, hx.g1]
 have c2 : w.cell? ⟨kb, off + 2, none⟩ = some (.int .i64 n) := by rw [hk.cell, hx.g2]
 have f2 := hk.frozen (off + 2)
 have hN' : (N : Int) ≤ 20000 := by omega
 have hsm : (lb.length : Int) ≤ 140737488355328 := by omega
 have hk1 : Blk (w.setCell ⟨kb, off + 2, none⟩ (.int .i64 (n + lb.length))) kb T (kx (.slice la N lc) (.slice ga N gc) (n + lb.length)) := by
  have := hk.set (off + 2) (.int .i64 (n + lb.length))
  rwa [hx.s2] at this
 have hG1 : Grown w (w.setCell ⟨kb, off + 2, none⟩ (.int .i64 (n + lb.length))) (fun k => k = kb) := Grown.setCell _ _ _ _ fun _ => rfl
 have hL1 := h.grown hG1 (fun k hk e => hF (e ▸ hk))
 have hv1 := hvb.grown hG1 (fun k hk e => hvk (e ▸ hk))
 have HN0 := kk hn0
 have HN1 := kk hn1
 have HB := kk hb
 have hn2 : n ≤ 140737505132544 := by omega
 have hnn : wrap64 (n + lb.length) = n + lb.length := by unfold wrap64; omega
 clear h hk hb hvb hn1 hN
 by_cases h1 : (20000 : Int) ≤ (N : Int)
 ·have HK1 := kk hk1
  have HL1 := kk hL1
  have Hv1 := kk hv1
  have HG1 := kk hG1
  have HSep := kk hsep
  have HVk := kk hvk
  clear hk1 hL1 hv1 hG1 hsep hvk
  go_enter Try.func16, Try.ntmps16
  go_wp2_with fail
  generalize w.setCell ⟨kb, off + 2, none⟩ (.int .i64 (n + lb.length)) = w1 at *
  clear c0 c1 c2 f2
  refine (yQ kb off T kx hx _ _ N A B _ F w1 HK1.out HL1.out (by omega)).mono ?_
  rintro e w2 ⟨rfl, hw2⟩
  rw [hw2]
  clear hw2
  have c0 : w1.cell? ⟨kb, off, none⟩ = some (.slice la N lc) := by rw [HK1.out.cell, hx.g0]
  have c1 : w1.cell? ⟨kb, off + 1, none⟩ = some (.slice ga N gc) := by rw [HK1.out.cell, hx.g1]
  have c2 : w1.cell? ⟨kb, off + 2, none⟩ = some (.int .i64 (n + lb.length)) := by rw [HK1.out.cell, hx.g2]
  have c3 : w1.cell? ⟨kb, off + 3, none⟩ = some (.bool false) := by rw [HK1.out.cell, hx.g3]
  have f0 := HK1.out.frozen off
  have f1 := HK1.out.frozen (off + 1)
  have f2 := HK1.out.frozen (off + 2)
  have f3 := HK1.out.frozen (off + 3)
  have hkS : Blk ((((w1.setCell ⟨kb, off + 3, none⟩ (.bool false)).setCell ⟨kb, off, none⟩ (.slice none 0 0)).setCell ⟨kb, off + 1, none⟩ (.slice none 0 0)).setCell ⟨kb, off + 2, none⟩ (.int .i64 (lb.length : Int))) kb T (kx (.slice none 0 0) (.slice none 0 0) (lb.length : Int)) := by
   have := (((HK1.out.set (off + 3) (.bool false)).set off (.slice none 0 0)).set (off + 1) (.slice none 0 0)).set (off + 2) (.int .i64 (lb.length : Int))
   rwa [hx.s3, hx.s0, hx.s1, hx.s2] at this
  have hG2 : Grown w1 ((((w1.setCell ⟨kb, off + 3, none⟩ (.bool false)).setCell ⟨kb, off, none⟩ (.slice none 0 0)).setCell ⟨kb, off + 1, none⟩ (.slice none 0 0)).setCell ⟨kb, off + 2, none⟩ (.int .i64 (lb.length : Int))) (fun k => k = kb) := (((Grown.setCell w1 kb (off + 3) _ (S := fun k => k = kb) fun _ => rfl).trans (Grown.setCell _ kb off _ fun _ => rfl)).trans (Grown.setCell _ kb (off + 1) _ fun _ => rfl)).trans (Grown.setCell _ kb (off + 2) _ fun _ => rfl)
  have HKS := kk hkS
  have HvS := kk (Hv1.out.grown hG2 (fun k hk e => HVk.out (e ▸ hk)))
  have HGS := kk (HG1.out.trans hG2)
  have HLS := kk (BkL.nil ((((w1.setCell ⟨kb, off + 3, none⟩ (.bool false)).setCell ⟨kb, off, none⟩ (.slice none 0 0)).setCell ⟨kb, off + 1, none⟩ (.slice none 0 0)).setCell ⟨kb, off + 2, none⟩ (.int .i64 (lb.length : Int))) A B F)
  clear hkS hG2
  go_wp2
  generalize (((w1.setCell ⟨kb, off + 3, none⟩ (.bool false)).setCell ⟨kb, off, none⟩ (.slice none 0 0)).setCell ⟨kb, off + 1, none⟩ (.slice none 0 0)).setCell ⟨kb, off + 2, none⟩ (.int .i64 (lb.length : Int)) = wS at *
  clear c0 c1 c2 c3 f0 f1 f2 f3
  have hmm : Keep ((1 : Int) = mark 0) := ⟨by decide⟩
  go_loopw [6] (fun i wr => ∃ t : Nat, t ≤ lb.length ∧ i = .int .i64 t ∧ OwnT wr (Value.slice va lb.length vc) (List.replicate t (1 : Int) ++ lb.drop t) ∧ Grown wS wr (fun k => (Value.slice va lb.length vc).ownBlock = some k)) (fun i _ => lb.length - (intOf i).toNat)
  case atStart => exact ⟨0, by omega, rfl, by simpa using HvS.out, Grown.refl _ _⟩
  case round =>
   obtain ⟨t, ht, rfl, hO, hGr⟩ := hrel
   by_cases hlt : t < lb.length
   ·have hlt' : (t : Int) < (lb.length : Int) := by omega
    have hll : (List.replicate t (1 : Int) ++ lb.drop t).length = lb.length := by simp; omega
    obtain ⟨g, e1⟩ := hO.addr (by rw [hll]; omega)
    ·subst e1
     have hc := hO.cells t (by rw [hll]; exact hlt)
     have d1 := hc.1
     have d2 := hc.2
     have HO := kk (hO.set t (1 : Int))
     have HG := kk (hGr.trans (Grown.setCell wr g t (.int .u8 (1 : Int)) (S := fun k => (Value.slice (some ⟨g, 0, none⟩) lb.length vc).ownBlock = some k) fun _ => rfl))
     obtain ⟨q, hq⟩ : ∃ q, Keep (q = (List.replicate t (1 : Int) ++ lb.drop t).getD t 0) := ⟨_, ⟨rfl⟩⟩
     rw [← hq.out] at d1
     clear hc hO hll hq hGr
     go_wp2
     go_roundw
     case rel => exact ⟨t + 1, by omega, by go_num, by rw [← yX lb t (1 : Int) hlt]; exact HO.out, HG.out⟩
     case measure => simp only [intOf]; omega
   ·obtain rfl : t = lb.length := by omega
    have hlt' : ¬ ((lb.length : Int) < (lb.length : Int)) := by omega
    have hO2 : OwnT wr (Value.slice va lb.length vc) (List.replicate lb.length (1 : Int)) := by simpa using hO
    have HO2 := kk hO2
    have HGr := kk hGr
    clear hO hGr hO2
    obtain ⟨wL, rfl⟩ : ∃ wL, wL = wr := ⟨_, rfl⟩
    go_wp2
    go_loopw [7, 8] (fun b i wx => ∃ (t : Nat) (g : Value), t ≤ 60 ∧ b = g ∧ i = .int .i64 t ∧ G2 wL (Value.slice va lb.length vc) g lb.length t (1 : Int) wx) (fun _ i _ => 60 - (intOf i).toNat)
    case atStart => exact ⟨0, _, by omega, rfl, rfl, HO2.out, HO2.out.row, fun k hk => HO2.out.typ hk, .inl rfl, Grown.refl _ _⟩
    case round =>
     obtain ⟨t, g, ht, hbg, rfl, hG⟩ := hrel
     have hbg2 := hbg.symm
     subst hbg2
     clear hbg
     obtain ⟨wx, rfl⟩ : ∃ wx, wx = wr := ⟨_, rfl⟩
     by_cases hlt : t < 60
     ·have hlt2 : (t : Int) < 60 := by omega
      have HO3 := kk (hG.own.box (.cells #[.int .u8 (1 : Int)] 5))
      have hlen : Keep ((List.replicate (lb.length + t) (1 : Int)).length + 1 ≤ 140737488355328) := ⟨by have := HB.out; rw [List.length_replicate]; omega⟩
      have HG := kk hG
      clear hG
      go_wp2_with (first | (at_builtin; refine xv rfl (.tmp 72) (.tmp 74) rfl _ (List.replicate (lb.length + t) (1 : Int)) wx.heap.size (1 : Int) rfl rfl HO3.out (ku wx _ _) hlen.out ?_; intro v' w' hp; refine Hid.out ?_))
      refine zp ?_
      have HN2 := kk (HG.out.next rfl HO2.out _ hp)
      clear hp
      go_wp2
      go_roundw
      case rel => exact ⟨t + 1, _, by omega, rfl, by go_num, HN2.out⟩
      case measure => simp only [intOf]; omega
     ·obtain rfl : t = 60 := by omega
      have hGx : Grown wS wx (fun k => (Value.slice va lb.length vc).ownBlock = some k) := HGr.out.trans hG.gr
      have hLx := HLS.out.grown hGx (fun k hk e => HSep.out k e hk)
      have hkx := hGx.blk HKS.out HVk.out
      have c0 : wx.cell? ⟨kb, off, none⟩ = some (Value.slice none 0 0) := by rw [hkx.cell, hx.g0]
      have HLx := kk hLx
      have Hkx := kk hkx
      have HGx := kk hGx
      have HG := kk hG
      have hOl := kk (hLx.l.grown (Grown.alloc wx (.cells #[(Value.slice va lb.length vc)] 42) fun _ => False) fun _ _ h => h)
      have hcc := kk (show (wx.alloc (.cells #[(Value.slice va lb.length vc)] 42)).cell? ⟨wx.heap.size, 0, none⟩ = some (Value.slice va lb.length vc) by rw [(Blk.new wx 42 #[(Value.slice va lb.length vc)]).cell]; rfl)
      have hbn : Keep (((List.range 0).map A).length + 1 ≤ 4398046511104) := ⟨by simp only [List.length_map, List.length_range]; omega⟩
      clear hG hLx hkx hGx
      go_wp2_with (first | (at_builtin; refine ja rfl (.tmp 80) (.tmp 82) rfl (Value.slice none 0 0) (Value.slice va lb.length vc) ((List.range 0).map A) wx.heap.size rfl rfl rfl hOl.out hcc.out hbn.out ?_; intro lv2 w4 ho4 hm4 hg4; refine Hid.out ?_))
      refine zp ?_
      obtain ⟨a4, n4, k4, rfl⟩ := ho4.sl3
      have hk4 : Blk w4 kb T (kx (Value.slice none 0 0) (Value.slice none 0 0) (lb.length : Int)) := hg4.blk (Hkx.out.alloc _) (hOl.out.ne (Hkx.out.alloc _) hT36)
      have hk5 : Blk (w4.setCell ⟨kb, off, none⟩ (.slice a4 n4 k4)) kb T (kx (.slice a4 n4 k4) (Value.slice none 0 0) (lb.length : Int)) := by
       have := hk4.set off (.slice a4 n4 k4)
       rwa [hx.s0] at this
      have hg5 : Grown wx (w4.setCell ⟨kb, off, none⟩ (.slice a4 n4 k4)) (fun k => k = kb ∨ (Value.slice none 0 0).ownBlock = some k) :=
       ((Grown.alloc wx (.cells #[(Value.slice va lb.length vc)] 42) _).next hg4 fun i _ e => .inr e).next (Grown.setCell w4 kb off _ (S := fun k => k = kb) fun _ => rfl) fun i _ e => .inl e
      have ho5 : OwnV (w4.setCell ⟨kb, off, none⟩ (.slice a4 n4 k4)) (.slice a4 n4 k4) ((List.range 0).map A ++ [(Value.slice va lb.length vc)]) :=
       ho4.grown (Grown.setCell w4 kb off _ (S := fun k => k = kb) fun _ => rfl) fun k hk e => ho4.ne hk4 hT36 (e ▸ hk)
      have hm5 : Moved wx (Value.slice none 0 0) (.slice a4 n4 k4) := (Moved.refl wx _).trans (Grown.alloc wx (.cells #[(Value.slice va lb.length vc)] 42) fun _ => False).size hm4
      have e5 : (w4.setCell ⟨kb, off, none⟩ (.slice a4 n4 k4)).heap.size = w4.heap.size := by simp [World.setCell]
      have hog5 : OwnV (w4.setCell ⟨kb, off, none⟩ (.slice a4 n4 k4)) (Value.slice none 0 0) ((List.range 0).map B) :=
       HLx.out.g.grown hg5 fun k hk e => by
        rcases e with e | e
        ·exact HLx.out.g.ne Hkx.out hT36 (e ▸ hk)
        ·exact HLx.out.ne k e hk
      have d0 : w4.cell? ⟨kb, off, none⟩ = some (Value.slice none 0 0) := by rw [hk4.cell, hx.g0]
      have d0f := hk4.frozen off
      have d1 : w4.cell? ⟨kb, off + 1, none⟩ = some (Value.slice none 0 0) := by rw [hk4.cell, hx.g1]
      have Hk5 := kk hk5
      have Hg5 := kk hg5
      have Ho5 := kk ho5
      have Hm5 := kk hm5
      obtain ⟨gA, gN, gC, hgv⟩ : ∃ a n c, g = Value.slice a n c := HG.out.own.sl
      subst hgv
      have hOg := kk (hog5.grown (Grown.alloc _ (.cells #[Value.slice gA gN gC] 42) fun _ => False) fun _ _ h => h)
      have hcg := (Blk.new (w4.setCell ⟨kb, off, none⟩ (.slice a4 n4 k4)) 42 #[Value.slice gA gN gC]).cell 0
      rw [e5] at hcg
      have Hcg := kk (hcg.trans (show (#[Value.slice gA gN gC] : Array Value)[0]? = some (Value.slice gA gN gC) from rfl))
      have hbn2 : Keep (((List.range 0).map B).length + 1 ≤ 4398046511104) := ⟨by simp only [List.length_map, List.length_range]; omega⟩
      clear ho4 hm4 hg4 hk4 hk5 hg5 ho5 hm5 hog5 hcg e5 c0
      go_wp2_with (first | (at_builtin; refine ja rfl (.tmp 90) (.tmp 92) rfl (Value.slice none 0 0) (.slice gA gN gC) ((List.range 0).map B) w4.heap.size rfl rfl rfl hOg.out Hcg.out hbn2.out ?_; intro gv2 w6 ho6 hm6 hg6; refine Hid.out ?_))
      refine zp ?_
      obtain ⟨w5, hw5⟩ : ∃ w5, Keep (w5 = w4.setCell ⟨kb, off, none⟩ (.slice a4 n4 k4)) := ⟨_, ⟨rfl⟩⟩
      rw [← hw5.out] at hm6 hg6 Hk5 Hg5 Ho5 hOg
      obtain ⟨a6, n6, k6, rfl⟩ := ho6.sl3
      have hk6 : Blk w6 kb T (kx (.slice a4 n4 k4) (Value.slice none 0 0) (lb.length : Int)) := hg6.blk (Hk5.out.alloc _) (hOg.out.ne (Hk5.out.alloc _) hT36)
      have hk7 : Blk (w6.setCell ⟨kb, off + 1, none⟩ (.slice a6 n6 k6)) kb T (kx (.slice a4 n4 k4) (.slice a6 n6 k6) (lb.length : Int)) := by
       have := hk6.set (off + 1) (.slice a6 n6 k6)
       rwa [hx.s1] at this
      have hg7 : Grown w5 (w6.setCell ⟨kb, off + 1, none⟩ (.slice a6 n6 k6)) (fun k => k = kb ∨ (Value.slice none 0 0).ownBlock = some k) :=
       ((Grown.alloc w5 (.cells #[Value.slice gA gN gC] 42) _).next hg6 fun i _ e => .inr e).next (Grown.setCell w6 kb (off + 1) _ (S := fun k => k = kb) fun _ => rfl) fun i _ e => .inl e
      have ho7 : OwnV (w6.setCell ⟨kb, off + 1, none⟩ (.slice a6 n6 k6)) (.slice a6 n6 k6) ((List.range 0).map B ++ [.slice gA gN gC]) :=
       ho6.grown (Grown.setCell w6 kb (off + 1) _ (S := fun k => k = kb) fun _ => rfl) fun k hk e => ho6.ne hk6 hT36 (e ▸ hk)
      have hm7 : Moved w5 (Value.slice none 0 0) (.slice a6 n6 k6) := (Moved.refl w5 _).trans (Grown.alloc w5 (.cells #[Value.slice gA gN gC] 42) fun _ => False).size hm6
      have d6 : w6.cell? ⟨kb, off + 1, none⟩ = some (Value.slice none 0 0) := by rw [hk6.cell, hx.g1]
      have d6f := hk6.frozen (off + 1)
      have Hk7 := kk hk7
      have Hg7 := kk hg7
      have Ho7 := kk ho7
      have Hm7 := kk hm7
      clear ho6 hm6 hg6 hk6 hk7 hg7 ho7 hm7 d0 d0f d1
      go_wp2
      go_end0
      have hsz : w.heap.size ≤ wL.heap.size := Nat.le_trans HGS.out.size HGr.out.size
      have hszx : wL.heap.size ≤ wx.heap.size := HG.out.gr.size
      have hvw : ∀ k, (Value.slice va lb.length vc).ownBlock = some k → k < wL.heap.size := fun k hk => HO2.out.lt k hk
      refine ⟨rfl, ⟨_, _, 0 + 1, _, _, (lb.length : Int), Hk7.out, HLx.out.push Hkx.out Hk5.out hT5 hT36 Ho5.out Hm5.out Hg5.out Ho7.out Hm7.out Hg7.out ⟨lb.length, by rw [← hmm.out]; exact HG.out.row, by omega⟩ ⟨lb.length + 60, by rw [← hmm.out]; exact HG.out.own.row, HB.out⟩ ?_ (fun k hk => HG.out.own.typ hk) (fun k hk => .inl hk) (fun k h1 h2 => .inr (.inr ⟨by omega, h2⟩)) (fun k hk => .inr (.inl hk)) ?_, by omega, ?_, ?_⟩, ?_⟩
      ·exact HG.out.typ
      ·intro k hk
       rcases HG.out.pos with h5 | ⟨k5, h5, h6⟩
       ·exact .inr (.inl (h5.symm.trans hk))
       ·rw [h5] at hk; injection hk with hk
        have := HG.out.own.lt k (by rw [h5, hk])
        have h8 := Hg5.out.size
        have h9 := Hg7.out.size
        exact .inr (.inr ⟨by omega, by omega⟩)
      ·omega
      ·have := HB.out; omega
      ·have hA : Grown w wx (fun k => k = kb ∨ F k ∨ (Value.slice va lb.length vc).ownBlock = some k) := (HGS.out.mono fun i _ e => Or.inl e).next HGx.out fun i _ e => .inr (.inr e)
       refine (hA.next Hg5.out fun i _ e => ?_).next Hg7.out fun i _ e => ?_
       ·rcases e with e | e
        ·exact .inl e
        ·exact .inr (.inl (HLx.out.F1 i e))
       ·rcases e with e | e
        ·exact .inl e
        ·exact .inr (.inl (HLx.out.F2 i e))
 ·by_cases h2 : (16777216 : Int) ≤ n + (lb.length : Int)
  ·have HK1 := kk hk1
   have HL1 := kk hL1
   have Hv1 := kk hv1
   have HG1 := kk hG1
   have HSep := kk hsep
   have HVk := kk hvk
   clear hk1 hL1 hv1 hG1 hsep hvk
   go_enter Try.func16, Try.ntmps16
   go_wp2_with fail
   generalize w.setCell ⟨kb, off + 2, none⟩ (.int .i64 (n + lb.length)) = w1 at *
   clear c0 c1 c2 f2
   refine (yQ kb off T kx hx _ _ N A B _ F w1 HK1.out HL1.out (by omega)).mono ?_
   rintro e w2 ⟨rfl, hw2⟩
   rw [hw2]
   clear hw2
   have c0 : w1.cell? ⟨kb, off, none⟩ = some (.slice la N lc) := by rw [HK1.out.cell, hx.g0]
   have c1 : w1.cell? ⟨kb, off + 1, none⟩ = some (.slice ga N gc) := by rw [HK1.out.cell, hx.g1]
   have c2 : w1.cell? ⟨kb, off + 2, none⟩ = some (.int .i64 (n + lb.length)) := by rw [HK1.out.cell, hx.g2]
   have c3 : w1.cell? ⟨kb, off + 3, none⟩ = some (.bool false) := by rw [HK1.out.cell, hx.g3]
   have f0 := HK1.out.frozen off
   have f1 := HK1.out.frozen (off + 1)
   have f2 := HK1.out.frozen (off + 2)
   have f3 := HK1.out.frozen (off + 3)
   have hkS : Blk ((((w1.setCell ⟨kb, off + 3, none⟩ (.bool false)).setCell ⟨kb, off, none⟩ (.slice none 0 0)).setCell ⟨kb, off + 1, none⟩ (.slice none 0 0)).setCell ⟨kb, off + 2, none⟩ (.int .i64 (lb.length : Int))) kb T (kx (.slice none 0 0) (.slice none 0 0) (lb.length : Int)) := by
    have := (((HK1.out.set (off + 3) (.bool false)).set off (.slice none 0 0)).set (off + 1) (.slice none 0 0)).set (off + 2) (.int .i64 (lb.length : Int))
    rwa [hx.s3, hx.s0, hx.s1, hx.s2] at this
   have hG2 : Grown w1 ((((w1.setCell ⟨kb, off + 3, none⟩ (.bool false)).setCell ⟨kb, off, none⟩ (.slice none 0 0)).setCell ⟨kb, off + 1, none⟩ (.slice none 0 0)).setCell ⟨kb, off + 2, none⟩ (.int .i64 (lb.length : Int))) (fun k => k = kb) := (((Grown.setCell w1 kb (off + 3) _ (S := fun k => k = kb) fun _ => rfl).trans (Grown.setCell _ kb off _ fun _ => rfl)).trans (Grown.setCell _ kb (off + 1) _ fun _ => rfl)).trans (Grown.setCell _ kb (off + 2) _ fun _ => rfl)
   have HKS := kk hkS
   have HvS := kk (Hv1.out.grown hG2 (fun k hk e => HVk.out (e ▸ hk)))
   have HGS := kk (HG1.out.trans hG2)
   have HLS := kk (BkL.nil ((((w1.setCell ⟨kb, off + 3, none⟩ (.bool false)).setCell ⟨kb, off, none⟩ (.slice none 0 0)).setCell ⟨kb, off + 1, none⟩ (.slice none 0 0)).setCell ⟨kb, off + 2, none⟩ (.int .i64 (lb.length : Int))) A B F)
   clear hkS hG2
   go_wp2
   generalize (((w1.setCell ⟨kb, off + 3, none⟩ (.bool false)).setCell ⟨kb, off, none⟩ (.slice none 0 0)).setCell ⟨kb, off + 1, none⟩ (.slice none 0 0)).setCell ⟨kb, off + 2, none⟩ (.int .i64 (lb.length : Int)) = wS at *
   clear c0 c1 c2 c3 f0 f1 f2 f3
   have hmm : Keep ((1 : Int) = mark 0) := ⟨by decide⟩
   go_loopw [6] (fun i wr => ∃ t : Nat, t ≤ lb.length ∧ i = .int .i64 t ∧ OwnT wr (Value.slice va lb.length vc) (List.replicate t (1 : Int) ++ lb.drop t) ∧ Grown wS wr (fun k => (Value.slice va lb.length vc).ownBlock = some k)) (fun i _ => lb.length - (intOf i).toNat)
   case atStart => exact ⟨0, by omega, rfl, by simpa using HvS.out, Grown.refl _ _⟩
   case round =>
    obtain ⟨t, ht, rfl, hO, hGr⟩ := hrel
    by_cases hlt : t < lb.length
    ·have hlt' : (t : Int) < (lb.length : Int) := by omega
     have hll : (List.replicate t (1 : Int) ++ lb.drop t).length = lb.length := by simp; omega
     obtain ⟨g, e1⟩ := hO.addr (by rw [hll]; omega)
     ·subst e1
      have hc := hO.cells t (by rw [hll]; exact hlt)
      have d1 := hc.1
      have d2 := hc.2
      have HO := kk (hO.set t (1 : Int))
      have HG := kk (hGr.trans (Grown.setCell wr g t (.int .u8 (1 : Int)) (S := fun k => (Value.slice (some ⟨g, 0, none⟩) lb.length vc).ownBlock = some k) fun _ => rfl))
      obtain ⟨q, hq⟩ : ∃ q, Keep (q = (List.replicate t (1 : Int) ++ lb.drop t).getD t 0) := ⟨_, ⟨rfl⟩⟩
      rw [← hq.out] at d1
      clear hc hO hll hq hGr
      go_wp2
      go_roundw
      case rel => exact ⟨t + 1, by omega, by go_num, by rw [← yX lb t (1 : Int) hlt]; exact HO.out, HG.out⟩
      case measure => simp only [intOf]; omega
    ·obtain rfl : t = lb.length := by omega
     have hlt' : ¬ ((lb.length : Int) < (lb.length : Int)) := by omega
     have hO2 : OwnT wr (Value.slice va lb.length vc) (List.replicate lb.length (1 : Int)) := by simpa using hO
     have HO2 := kk hO2
     have HGr := kk hGr
     clear hO hGr hO2
     obtain ⟨wL, rfl⟩ : ∃ wL, wL = wr := ⟨_, rfl⟩
     go_wp2
     go_loopw [7, 8] (fun b i wx => ∃ (t : Nat) (g : Value), t ≤ 60 ∧ b = g ∧ i = .int .i64 t ∧ G2 wL (Value.slice va lb.length vc) g lb.length t (1 : Int) wx) (fun _ i _ => 60 - (intOf i).toNat)
     case atStart => exact ⟨0, _, by omega, rfl, rfl, HO2.out, HO2.out.row, fun k hk => HO2.out.typ hk, .inl rfl, Grown.refl _ _⟩
     case round =>
      obtain ⟨t, g, ht, hbg, rfl, hG⟩ := hrel
      have hbg2 := hbg.symm
      subst hbg2
      clear hbg
      obtain ⟨wx, rfl⟩ : ∃ wx, wx = wr := ⟨_, rfl⟩
      by_cases hlt : t < 60
      ·have hlt2 : (t : Int) < 60 := by omega
       have HO3 := kk (hG.own.box (.cells #[.int .u8 (1 : Int)] 5))
       have hlen : Keep ((List.replicate (lb.length + t) (1 : Int)).length + 1 ≤ 140737488355328) := ⟨by have := HB.out; rw [List.length_replicate]; omega⟩
       have HG := kk hG
       clear hG
       go_wp2_with (first | (at_builtin; refine xv rfl (.tmp 72) (.tmp 74) rfl _ (List.replicate (lb.length + t) (1 : Int)) wx.heap.size (1 : Int) rfl rfl HO3.out (ku wx _ _) hlen.out ?_; intro v' w' hp; refine Hid.out ?_))
       refine zp ?_
       have HN2 := kk (HG.out.next rfl HO2.out _ hp)
       clear hp
       go_wp2
       go_roundw
       case rel => exact ⟨t + 1, _, by omega, rfl, by go_num, HN2.out⟩
       case measure => simp only [intOf]; omega
      ·obtain rfl : t = 60 := by omega
       have hGx : Grown wS wx (fun k => (Value.slice va lb.length vc).ownBlock = some k) := HGr.out.trans hG.gr
       have hLx := HLS.out.grown hGx (fun k hk e => HSep.out k e hk)
       have hkx := hGx.blk HKS.out HVk.out
       have c0 : wx.cell? ⟨kb, off, none⟩ = some (Value.slice none 0 0) := by rw [hkx.cell, hx.g0]
       have HLx := kk hLx
       have Hkx := kk hkx
       have HGx := kk hGx
       have HG := kk hG
       have hOl := kk (hLx.l.grown (Grown.alloc wx (.cells #[(Value.slice va lb.length vc)] 42) fun _ => False) fun _ _ h => h)
       have hcc := kk (show (wx.alloc (.cells #[(Value.slice va lb.length vc)] 42)).cell? ⟨wx.heap.size, 0, none⟩ = some (Value.slice va lb.length vc) by rw [(Blk.new wx 42 #[(Value.slice va lb.length vc)]).cell]; rfl)
       have hbn : Keep (((List.range 0).map A).length + 1 ≤ 4398046511104) := ⟨by simp only [List.length_map, List.length_range]; omega⟩
       clear hG hLx hkx hGx
       go_wp2_with (first | (at_builtin; refine ja rfl (.tmp 80) (.tmp 82) rfl (Value.slice none 0 0) (Value.slice va lb.length vc) ((List.range 0).map A) wx.heap.size rfl rfl rfl hOl.out hcc.out hbn.out ?_; intro lv2 w4 ho4 hm4 hg4; refine Hid.out ?_))
       refine zp ?_
       obtain ⟨a4, n4, k4, rfl⟩ := ho4.sl3
       have hk4 : Blk w4 kb T (kx (Value.slice none 0 0) (Value.slice none 0 0) (lb.length : Int)) := hg4.blk (Hkx.out.alloc _) (hOl.out.ne (Hkx.out.alloc _) hT36)
       have hk5 : Blk (w4.setCell ⟨kb, off, none⟩ (.slice a4 n4 k4)) kb T (kx (.slice a4 n4 k4) (Value.slice none 0 0) (lb.length : Int)) := by
        have := hk4.set off (.slice a4 n4 k4)
        rwa [hx.s0] at this
       have hg5 : Grown wx (w4.setCell ⟨kb, off, none⟩ (.slice a4 n4 k4)) (fun k => k = kb ∨ (Value.slice none 0 0).ownBlock = some k) :=
        ((Grown.alloc wx (.cells #[(Value.slice va lb.length vc)] 42) _).next hg4 fun i _ e => .inr e).next (Grown.setCell w4 kb off _ (S := fun k => k = kb) fun _ => rfl) fun i _ e => .inl e
       have ho5 : OwnV (w4.setCell ⟨kb, off, none⟩ (.slice a4 n4 k4)) (.slice a4 n4 k4) ((List.range 0).map A ++ [(Value.slice va lb.length vc)]) :=
        ho4.grown (Grown.setCell w4 kb off _ (S := fun k => k = kb) fun _ => rfl) fun k hk e => ho4.ne hk4 hT36 (e ▸ hk)
       have hm5 : Moved wx (Value.slice none 0 0) (.slice a4 n4 k4) := (Moved.refl wx _).trans (Grown.alloc wx (.cells #[(Value.slice va lb.length vc)] 42) fun _ => False).size hm4
       have e5 : (w4.setCell ⟨kb, off, none⟩ (.slice a4 n4 k4)).heap.size = w4.heap.size := by simp [World.setCell]
       have hog5 : OwnV (w4.setCell ⟨kb, off, none⟩ (.slice a4 n4 k4)) (Value.slice none 0 0) ((List.range 0).map B) :=
        HLx.out.g.grown hg5 fun k hk e => by
         rcases e with e | e
         ·exact HLx.out.g.ne Hkx.out hT36 (e ▸ hk)
         ·exact HLx.out.ne k e hk
       have d0 : w4.cell? ⟨kb, off, none⟩ = some (Value.slice none 0 0) := by rw [hk4.cell, hx.g0]
       have d0f := hk4.frozen off
       have d1 : w4.cell? ⟨kb, off + 1, none⟩ = some (Value.slice none 0 0) := by rw [hk4.cell, hx.g1]
       have Hk5 := kk hk5
       have Hg5 := kk hg5
       have Ho5 := kk ho5
       have Hm5 := kk hm5
       obtain ⟨gA, gN, gC, hgv⟩ : ∃ a n c, g = Value.slice a n c := HG.out.own.sl
       subst hgv
       have hOg := kk (hog5.grown (Grown.alloc _ (.cells #[Value.slice gA gN gC] 42) fun _ => False) fun _ _ h => h)
       have hcg := (Blk.new (w4.setCell ⟨kb, off, none⟩ (.slice a4 n4 k4)) 42 #[Value.slice gA gN gC]).cell 0
       rw [e5] at hcg
       have Hcg := kk (hcg.trans (show (#[Value.slice gA gN gC] : Array Value)[0]? = some (Value.slice gA gN gC) from rfl))
       have hbn2 : Keep (((List.range 0).map B).length + 1 ≤ 4398046511104) := ⟨by simp only [List.length_map, List.length_range]; omega⟩
       clear ho4 hm4 hg4 hk4 hk5 hg5 ho5 hm5 hog5 hcg e5 c0
       go_wp2_with (first | (at_builtin; refine ja rfl (.tmp 90) (.tmp 92) rfl (Value.slice none 0 0) (.slice gA gN gC) ((List.range 0).map B) w4.heap.size rfl rfl rfl hOg.out Hcg.out hbn2.out ?_; intro gv2 w6 ho6 hm6 hg6; refine Hid.out ?_))
       refine zp ?_
       obtain ⟨w5, hw5⟩ : ∃ w5, Keep (w5 = w4.setCell ⟨kb, off, none⟩ (.slice a4 n4 k4)) := ⟨_, ⟨rfl⟩⟩
       rw [← hw5.out] at hm6 hg6 Hk5 Hg5 Ho5 hOg
       obtain ⟨a6, n6, k6, rfl⟩ := ho6.sl3
       have hk6 : Blk w6 kb T (kx (.slice a4 n4 k4) (Value.slice none 0 0) (lb.length : Int)) := hg6.blk (Hk5.out.alloc _) (hOg.out.ne (Hk5.out.alloc _) hT36)
       have hk7 : Blk (w6.setCell ⟨kb, off + 1, none⟩ (.slice a6 n6 k6)) kb T (kx (.slice a4 n4 k4) (.slice a6 n6 k6) (lb.length : Int)) := by
        have := hk6.set (off + 1) (.slice a6 n6 k6)
        rwa [hx.s1] at this
       have hg7 : Grown w5 (w6.setCell ⟨kb, off + 1, none⟩ (.slice a6 n6 k6)) (fun k => k = kb ∨ (Value.slice none 0 0).ownBlock = some k) :=
        ((Grown.alloc w5 (.cells #[Value.slice gA gN gC] 42) _).next hg6 fun i _ e => .inr e).next (Grown.setCell w6 kb (off + 1) _ (S := fun k => k = kb) fun _ => rfl) fun i _ e => .inl e
       have ho7 : OwnV (w6.setCell ⟨kb, off + 1, none⟩ (.slice a6 n6 k6)) (.slice a6 n6 k6) ((List.range 0).map B ++ [.slice gA gN gC]) :=
        ho6.grown (Grown.setCell w6 kb (off + 1) _ (S := fun k => k = kb) fun _ => rfl) fun k hk e => ho6.ne hk6 hT36 (e ▸ hk)
       have hm7 : Moved w5 (Value.slice none 0 0) (.slice a6 n6 k6) := (Moved.refl w5 _).trans (Grown.alloc w5 (.cells #[Value.slice gA gN gC] 42) fun _ => False).size hm6
       have d6 : w6.cell? ⟨kb, off + 1, none⟩ = some (Value.slice none 0 0) := by rw [hk6.cell, hx.g1]
       have d6f := hk6.frozen (off + 1)
       have Hk7 := kk hk7
       have Hg7 := kk hg7
       have Ho7 := kk ho7
       have Hm7 := kk hm7
       clear ho6 hm6 hg6 hk6 hk7 hg7 ho7 hm7 d0 d0f d1
       go_wp2
       go_end0
       have hsz : w.heap.size ≤ wL.heap.size := Nat.le_trans HGS.out.size HGr.out.size
       have hszx : wL.heap.size ≤ wx.heap.size := HG.out.gr.size
       have hvw : ∀ k, (Value.slice va lb.length vc).ownBlock = some k → k < wL.heap.size := fun k hk => HO2.out.lt k hk
       refine ⟨rfl, ⟨_, _, 0 + 1, _, _, (lb.length : Int), Hk7.out, HLx.out.push Hkx.out Hk5.out hT5 hT36 Ho5.out Hm5.out Hg5.out Ho7.out Hm7.out Hg7.out ⟨lb.length, by rw [← hmm.out]; exact HG.out.row, by omega⟩ ⟨lb.length + 60, by rw [← hmm.out]; exact HG.out.own.row, HB.out⟩ ?_ (fun k hk => HG.out.own.typ hk) (fun k hk => .inl hk) (fun k h1 h2 => .inr (.inr ⟨by omega, h2⟩)) (fun k hk => .inr (.inl hk)) ?_, by omega, ?_, ?_⟩, ?_⟩
       ·exact HG.out.typ
       ·intro k hk
        rcases HG.out.pos with h5 | ⟨k5, h5, h6⟩
        ·exact .inr (.inl (h5.symm.trans hk))
        ·rw [h5] at hk; injection hk with hk
         have := HG.out.own.lt k (by rw [h5, hk])
         have h8 := Hg5.out.size
         have h9 := Hg7.out.size
         exact .inr (.inr ⟨by omega, by omega⟩)
       ·omega
       ·have := HB.out; omega
       ·have hA : Grown w wx (fun k => k = kb ∨ F k ∨ (Value.slice va lb.length vc).ownBlock = some k) := (HGS.out.mono fun i _ e => Or.inl e).next HGx.out fun i _ e => .inr (.inr e)
        refine (hA.next Hg5.out fun i _ e => ?_).next Hg7.out fun i _ e => ?_
        ·rcases e with e | e
         ·exact .inl e
         ·exact .inr (.inl (HLx.out.F1 i e))
        ·rcases e with e | e
         ·exact .inl e
         ·exact .inr (.inl (HLx.out.F2 i e))

  ·have HKS := kk hk1
   have HLS := kk hL1
   have HvS := kk hv1
   have HGS := kk hG1
   have HSep := kk hsep
   have HVk := kk hvk
   clear hk1 hL1 hv1 hG1 hsep hvk
   go_enter Try.func16, Try.ntmps16
   go_wp2
   generalize w.setCell ⟨kb, off + 2, none⟩ (.int .i64 (n + lb.length)) = wS at *
   have hm : 1 + (N : Int) % 250 = mark N := by unfold mark; omega
   have hm1 : 0 ≤ mark N := by unfold mark; omega
   have hm2 : mark N < 256 := by unfold mark; omega
   obtain ⟨mm, hmm⟩ : ∃ mm, Keep (mm = mark N) := ⟨_, ⟨rfl⟩⟩
   rw [← hmm.out] at hm hm1 hm2
   go_loopw [6] (fun i wr => ∃ t : Nat, t ≤ lb.length ∧ i = .int .i64 t ∧ OwnT wr (Value.slice va lb.length vc) (List.replicate t mm ++ lb.drop t) ∧ Grown wS wr (fun k => (Value.slice va lb.length vc).ownBlock = some k)) (fun i _ => lb.length - (intOf i).toNat)
   case atStart => exact ⟨0, by omega, rfl, by simpa using HvS.out, Grown.refl _ _⟩
   case round =>
    obtain ⟨t, ht, rfl, hO, hGr⟩ := hrel
    by_cases hlt : t < lb.length
    ·have hlt' : (t : Int) < (lb.length : Int) := by omega
     have hll : (List.replicate t mm ++ lb.drop t).length = lb.length := by simp; omega
     obtain ⟨g, e1⟩ := hO.addr (by rw [hll]; omega)
     ·subst e1
      have hc := hO.cells t (by rw [hll]; exact hlt)
      have d1 := hc.1
      have d2 := hc.2
      have HO := kk (hO.set t mm)
      have HG := kk (hGr.trans (Grown.setCell wr g t (.int .u8 mm) (S := fun k => (Value.slice (some ⟨g, 0, none⟩) lb.length vc).ownBlock = some k) fun _ => rfl))
      obtain ⟨q, hq⟩ : ∃ q, Keep (q = (List.replicate t mm ++ lb.drop t).getD t 0) := ⟨_, ⟨rfl⟩⟩
      rw [← hq.out] at d1
      clear hc hO hll hq hGr
      go_wp2
      go_roundw
      case rel => exact ⟨t + 1, by omega, by go_num, by rw [← yX lb t mm hlt]; exact HO.out, HG.out⟩
      case measure => simp only [intOf]; omega
    ·obtain rfl : t = lb.length := by omega
     have hlt' : ¬ ((lb.length : Int) < (lb.length : Int)) := by omega
     have hO2 : OwnT wr (Value.slice va lb.length vc) (List.replicate lb.length mm) := by simpa using hO
     have HO2 := kk hO2
     have HGr := kk hGr
     clear hO hGr hO2
     obtain ⟨wL, rfl⟩ : ∃ wL, wL = wr := ⟨_, rfl⟩
     go_wp2
     go_loopw [7, 8] (fun b i wx => ∃ (t : Nat) (g : Value), t ≤ 60 ∧ b = g ∧ i = .int .i64 t ∧ G2 wL (Value.slice va lb.length vc) g lb.length t mm wx) (fun _ i _ => 60 - (intOf i).toNat)
     case atStart => exact ⟨0, _, by omega, rfl, rfl, HO2.out, HO2.out.row, fun k hk => HO2.out.typ hk, .inl rfl, Grown.refl _ _⟩
     case round =>
      obtain ⟨t, g, ht, hbg, rfl, hG⟩ := hrel
      have hbg2 := hbg.symm
      subst hbg2
      clear hbg
      obtain ⟨wx, rfl⟩ : ∃ wx, wx = wr := ⟨_, rfl⟩
      by_cases hlt : t < 60
      ·have hlt2 : (t : Int) < 60 := by omega
       have HO3 := kk (hG.own.box (.cells #[.int .u8 mm] 5))
       have hlen : Keep ((List.replicate (lb.length + t) mm).length + 1 ≤ 140737488355328) := ⟨by have := HB.out; rw [List.length_replicate]; omega⟩
       have HG := kk hG
       clear hG
       go_wp2_with (first | (at_builtin; refine xv rfl (.tmp 72) (.tmp 74) rfl _ (List.replicate (lb.length + t) mm) wx.heap.size mm rfl rfl HO3.out (ku wx _ _) hlen.out ?_; intro v' w' hp; refine Hid.out ?_))
       refine zp ?_
       have HN2 := kk (HG.out.next rfl HO2.out _ hp)
       clear hp
       go_wp2
       go_roundw
       case rel => exact ⟨t + 1, _, by omega, rfl, by go_num, HN2.out⟩
       case measure => simp only [intOf]; omega
      ·obtain rfl : t = 60 := by omega
       have hGx : Grown wS wx (fun k => (Value.slice va lb.length vc).ownBlock = some k) := HGr.out.trans hG.gr
       have hLx := HLS.out.grown hGx (fun k hk e => HSep.out k e hk)
       have hkx := hGx.blk HKS.out HVk.out
       have c0 : wx.cell? ⟨kb, off, none⟩ = some (Value.slice la N lc) := by rw [hkx.cell, hx.g0]
       have HLx := kk hLx
       have Hkx := kk hkx
       have HGx := kk hGx
       have HG := kk hG
       have hOl := kk (hLx.l.grown (Grown.alloc wx (.cells #[(Value.slice va lb.length vc)] 42) fun _ => False) fun _ _ h => h)
       have hcc := kk (show (wx.alloc (.cells #[(Value.slice va lb.length vc)] 42)).cell? ⟨wx.heap.size, 0, none⟩ = some (Value.slice va lb.length vc) by rw [(Blk.new wx 42 #[(Value.slice va lb.length vc)]).cell]; rfl)
       have hbn : Keep (((List.range N).map A).length + 1 ≤ 4398046511104) := ⟨by simp only [List.length_map, List.length_range]; omega⟩
       clear hG hLx hkx hGx
       go_wp2_with (first | (at_builtin; refine ja rfl (.tmp 80) (.tmp 82) rfl (Value.slice la N lc) (Value.slice va lb.length vc) ((List.range N).map A) wx.heap.size rfl rfl rfl hOl.out hcc.out hbn.out ?_; intro lv2 w4 ho4 hm4 hg4; refine Hid.out ?_))
       refine zp ?_
       obtain ⟨a4, n4, k4, rfl⟩ := ho4.sl3
       have hk4 : Blk w4 kb T (kx (Value.slice la N lc) (Value.slice ga N gc) (n + lb.length)) := hg4.blk (Hkx.out.alloc _) (hOl.out.ne (Hkx.out.alloc _) hT36)
       have hk5 : Blk (w4.setCell ⟨kb, off, none⟩ (.slice a4 n4 k4)) kb T (kx (.slice a4 n4 k4) (Value.slice ga N gc) (n + lb.length)) := by
        have := hk4.set off (.slice a4 n4 k4)
        rwa [hx.s0] at this
       have hg5 : Grown wx (w4.setCell ⟨kb, off, none⟩ (.slice a4 n4 k4)) (fun k => k = kb ∨ (Value.slice la N lc).ownBlock = some k) :=
        ((Grown.alloc wx (.cells #[(Value.slice va lb.length vc)] 42) _).next hg4 fun i _ e => .inr e).next (Grown.setCell w4 kb off _ (S := fun k => k = kb) fun _ => rfl) fun i _ e => .inl e
       have ho5 : OwnV (w4.setCell ⟨kb, off, none⟩ (.slice a4 n4 k4)) (.slice a4 n4 k4) ((List.range N).map A ++ [(Value.slice va lb.length vc)]) :=
        ho4.grown (Grown.setCell w4 kb off _ (S := fun k => k = kb) fun _ => rfl) fun k hk e => ho4.ne hk4 hT36 (e ▸ hk)
       have hm5 : Moved wx (Value.slice la N lc) (.slice a4 n4 k4) := (Moved.refl wx _).trans (Grown.alloc wx (.cells #[(Value.slice va lb.length vc)] 42) fun _ => False).size hm4
       have e5 : (w4.setCell ⟨kb, off, none⟩ (.slice a4 n4 k4)).heap.size = w4.heap.size := by simp [World.setCell]
       have hog5 : OwnV (w4.setCell ⟨kb, off, none⟩ (.slice a4 n4 k4)) (Value.slice ga N gc) ((List.range N).map B) :=
        HLx.out.g.grown hg5 fun k hk e => by
         rcases e with e | e
         ·exact HLx.out.g.ne Hkx.out hT36 (e ▸ hk)
         ·exact HLx.out.ne k e hk
       have d0 : w4.cell? ⟨kb, off, none⟩ = some (Value.slice la N lc) := by rw [hk4.cell, hx.g0]
       have d0f := hk4.frozen off
       have d1 : w4.cell? ⟨kb, off + 1, none⟩ = some (Value.slice ga N gc) := by rw [hk4.cell, hx.g1]
       have Hk5 := kk hk5
       have Hg5 := kk hg5
       have Ho5 := kk ho5
       have Hm5 := kk hm5
       obtain ⟨gA, gN, gC, hgv⟩ : ∃ a n c, g = Value.slice a n c := HG.out.own.sl
       subst hgv
       have hOg := kk (hog5.grown (Grown.alloc _ (.cells #[Value.slice gA gN gC] 42) fun _ => False) fun _ _ h => h)
       have hcg := (Blk.new (w4.setCell ⟨kb, off, none⟩ (.slice a4 n4 k4)) 42 #[Value.slice gA gN gC]).cell 0
       rw [e5] at hcg
       have Hcg := kk (hcg.trans (show (#[Value.slice gA gN gC] : Array Value)[0]? = some (Value.slice gA gN gC) from rfl))
       have hbn2 : Keep (((List.range N).map B).length + 1 ≤ 4398046511104) := ⟨by simp only [List.length_map, List.length_range]; omega⟩
       clear ho4 hm4 hg4 hk4 hk5 hg5 ho5 hm5 hog5 hcg e5 c0
       go_wp2_with (first | (at_builtin; refine ja rfl (.tmp 90) (.tmp 92) rfl (Value.slice ga N gc) (.slice gA gN gC) ((List.range N).map B) w4.heap.size rfl rfl rfl hOg.out Hcg.out hbn2.out ?_; intro gv2 w6 ho6 hm6 hg6; refine Hid.out ?_))
       refine zp ?_
       obtain ⟨w5, hw5⟩ : ∃ w5, Keep (w5 = w4.setCell ⟨kb, off, none⟩ (.slice a4 n4 k4)) := ⟨_, ⟨rfl⟩⟩
       rw [← hw5.out] at hm6 hg6 Hk5 Hg5 Ho5 hOg
       obtain ⟨a6, n6, k6, rfl⟩ := ho6.sl3
       have hk6 : Blk w6 kb T (kx (.slice a4 n4 k4) (Value.slice ga N gc) (n + lb.length)) := hg6.blk (Hk5.out.alloc _) (hOg.out.ne (Hk5.out.alloc _) hT36)
       have hk7 : Blk (w6.setCell ⟨kb, off + 1, none⟩ (.slice a6 n6 k6)) kb T (kx (.slice a4 n4 k4) (.slice a6 n6 k6) (n + lb.length)) := by
        have := hk6.set (off + 1) (.slice a6 n6 k6)
        rwa [hx.s1] at this
       have hg7 : Grown w5 (w6.setCell ⟨kb, off + 1, none⟩ (.slice a6 n6 k6)) (fun k => k = kb ∨ (Value.slice ga N gc).ownBlock = some k) :=
        ((Grown.alloc w5 (.cells #[Value.slice gA gN gC] 42) _).next hg6 fun i _ e => .inr e).next (Grown.setCell w6 kb (off + 1) _ (S := fun k => k = kb) fun _ => rfl) fun i _ e => .inl e
       have ho7 : OwnV (w6.setCell ⟨kb, off + 1, none⟩ (.slice a6 n6 k6)) (.slice a6 n6 k6) ((List.range N).map B ++ [.slice gA gN gC]) :=
        ho6.grown (Grown.setCell w6 kb (off + 1) _ (S := fun k => k = kb) fun _ => rfl) fun k hk e => ho6.ne hk6 hT36 (e ▸ hk)
       have hm7 : Moved w5 (Value.slice ga N gc) (.slice a6 n6 k6) := (Moved.refl w5 _).trans (Grown.alloc w5 (.cells #[Value.slice gA gN gC] 42) fun _ => False).size hm6
       have d6 : w6.cell? ⟨kb, off + 1, none⟩ = some (Value.slice ga N gc) := by rw [hk6.cell, hx.g1]
       have d6f := hk6.frozen (off + 1)
       have Hk7 := kk hk7
       have Hg7 := kk hg7
       have Ho7 := kk ho7
       have Hm7 := kk hm7
       clear ho6 hm6 hg6 hk6 hk7 hg7 ho7 hm7 d0 d0f d1
       go_wp2
       go_end0
       have hsz : w.heap.size ≤ wL.heap.size := Nat.le_trans HGS.out.size HGr.out.size
       have hszx : wL.heap.size ≤ wx.heap.size := HG.out.gr.size
       have hvw : ∀ k, (Value.slice va lb.length vc).ownBlock = some k → k < wL.heap.size := fun k hk => HO2.out.lt k hk
       refine ⟨rfl, ⟨_, _, N + 1, _, _, (n + lb.length), Hk7.out, HLx.out.push Hkx.out Hk5.out hT5 hT36 Ho5.out Hm5.out Hg5.out Ho7.out Hm7.out Hg7.out ⟨lb.length, by rw [← hmm.out]; exact HG.out.row, by omega⟩ ⟨lb.length + 60, by rw [← hmm.out]; exact HG.out.own.row, HB.out⟩ ?_ (fun k hk => HG.out.own.typ hk) (fun k hk => .inl hk) (fun k h1 h2 => .inr (.inr ⟨by omega, h2⟩)) (fun k hk => .inr (.inl hk)) ?_, by omega, ?_, ?_⟩, ?_⟩
       ·exact HG.out.typ
       ·intro k hk
        rcases HG.out.pos with h5 | ⟨k5, h5, h6⟩
        ·exact .inr (.inl (h5.symm.trans hk))
        ·rw [h5] at hk; injection hk with hk
         have := HG.out.own.lt k (by rw [h5, hk])
         have h8 := Hg5.out.size
         have h9 := Hg7.out.size
         exact .inr (.inr ⟨by omega, by omega⟩)
       ·have := HN0.out; omega
       ·have := HN1.out; omega
       ·have hA : Grown w wx (fun k => k = kb ∨ F k ∨ (Value.slice va lb.length vc).ownBlock = some k) := (HGS.out.mono fun i _ e => Or.inl e).next HGx.out fun i _ e => .inr (.inr e)
        refine (hA.next Hg5.out fun i _ e => ?_).next Hg7.out fun i _ e => ?_
        ·rcases e with e | e
         ·exact .inl e
         ·exact .inr (.inl (HLx.out.F1 i e))
        ·rcases e with e | e
         ·exact .inl e
         ·exact .inr (.inl (HLx.out.F2 i e))
end Go.Proofs.Ytdpcjfafbmhceaa
