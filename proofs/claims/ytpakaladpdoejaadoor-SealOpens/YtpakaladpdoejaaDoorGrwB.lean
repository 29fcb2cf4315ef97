import Derived.Test.YtpakaladpdoejaaDoorGrwA
namespace Go.Proofs.YtpakaladpdoejaaDoor
open Go.RowKit

theorem OwnT.slN {w : World} {v : Value} {l : List Int} (h : OwnT w v l) : ∃ a c, v = .slice a l.length c := by
  obtain ⟨a, n, c, rfl⟩ := h.sl
  exact ⟨a, c, by rw [h.plain.2.2.2]⟩
theorem row_at {w : World} {v : Value} {n : Nat} {c : Int} {a : Option Addr} {k : Nat} (h : RowAt w v (List.replicate n c)) (hv : v = .slice a n k) {u : Nat} (hu : u < n) : ∃ b off, a = some ⟨b, off, none⟩ ∧ w.cell? ⟨b, off + u, none⟩ = some (.int .u8 c) := by
  rcases h with ⟨e1, e2⟩ | ⟨_, _, e1, e2⟩ | ⟨b, off, cap, e1, hcap, hc⟩
  · have := congrArg List.length e2; simp at this; omega
  · have := congrArg List.length e2; simp at this; omega
  · rw [hv] at e1
    injection e1 with e1 e2 e3
    refine ⟨b, off, e1, ?_⟩
    rw [hc u (by simpa using hu)]
    simp [List.getD_eq_getElem?_getD, hu]
theorem row_n {w : World} {v : Value} {n : Nat} {c : Int} (h : RowAt w v (List.replicate n c)) : ∃ a k, v = .slice a n k := by
  obtain ⟨a, k, e⟩ := row_form h
  rw [List.length_replicate] at e
  exact ⟨a, k, e⟩

set_option maxRecDepth 8000 in
set_option maxHeartbeats 2000000 in
theorem grown_any (gl m : Nat) (V : Nat → Value) (L0 : Nat → List Int) (w : World) (hF : Fil w gl m V L0 w) (hs : Sep m V) (hm : m ≤ 200) (hn : ∀ j, j < m → (L0 j).length + 71 ≤ 140737488355328) :
    Calls Tryd.prog 12 #[.slice (some ⟨gl, 0, none⟩) m m] w fun e w' => e = .returned (.bool true) ∧ Grown w w' fun k => ∃ j, j < m ∧ (V j).ownBlock = some k := by
  have HF := Keep.mk hF
  have HS := Keep.mk hs
  have HN := Keep.mk hn
  have HG0 : Keep (gl < w.heap.size) := ⟨hF.tab.lt⟩
  have hmI : (m : Int) ≤ 200 := by omega
  obtain ⟨n, hnn⟩ : ∃ n : Nat → Nat, Keep (∀ j, n j = (L0 j).length) := ⟨fun j => (L0 j).length, ⟨fun _ => rfl⟩⟩
  clear hF hs hn hm
  go_enter Tryd.func12, Tryd.ntmps12
  go_wp2_with fail
  go_loopw [3] (fun i wr => ∃ (t : Nat) (Ls : Nat → List Int), t ≤ m ∧ i = .int .i64 t ∧ Keep ((∀ j, j < t → Ls j = List.replicate (n j) ((j : Int) + 1)) ∧ ∀ j, (Ls j).length = n j) ∧ Fil w gl m V Ls wr) (fun i _ => m - (intOf i).toNat)
  case atStart => exact ⟨0, L0, by omega, rfl, ⟨fun j hj => by omega, fun j => (hnn.out j).symm⟩, HF.out⟩
  case round =>
    clear HF
    obtain ⟨t, Ls, ht, rfl, HL, hF⟩ := hrel
    by_cases hlt : t < m
    · have hlt' : (t : Int) < (m : Int) := by omega
      have hwr : IntKind.u8.wrap ((t : Int) + 1) = (t : Int) + 1 := by rw [IntKind.wrap_u8]; omega
      obtain ⟨va, vc, hv⟩ := (hF.own t hlt).slN
      rw [HL.out.2 t] at hv
      have HV := Keep.mk hv
      have HNt : Keep (n t + 71 ≤ 140737488355328) := ⟨by have := HN.out t hlt; rw [← hnn.out t] at this; exact this⟩
      have HF1 : Keep (Fil w gl m V (updN Ls t (List.replicate 0 ((t : Int) + 1) ++ (Ls t).drop 0)) wr) := ⟨by
        have e : updN Ls t (List.replicate 0 ((t : Int) + 1) ++ (Ls t).drop 0) = Ls := by
          funext j
          by_cases e : j = t
          · subst e; rw [updN_self]; simp
          · rw [updN_ne _ _ e]
        rw [e]; exact hF⟩
      have hnI : (n t : Int) ≤ 140737488355328 := by have := HNt.out; omega
      clear hF hv
      go_wp2_with fail
      go_loopw [4] (fun k wi => ∃ u : Nat, u ≤ n t ∧ k = .int .i64 (u : Int) ∧ Fil w gl m V (updN Ls t (List.replicate u ((t : Int) + 1) ++ (Ls t).drop u)) wi) (fun k _ => n t - (intOf k).toNat)
      case atStart => exact ⟨0, by omega, rfl, HF1.out⟩
      case round =>
        clear HF1
        rename_i k wi
        obtain ⟨u, hu, rfl, hF⟩ := hrel
        have ct := hF.at hlt
        rw [HV.out] at ct
        by_cases hul : u < n t
        · have hul' : (u : Int) < (n t : Int) := by omega
          have hO := hF.own t hlt
          rw [updN_self] at hO
          have hlen : (List.replicate u ((t : Int) + 1) ++ (Ls t).drop u).length = n t := by
            rw [List.length_append, List.length_replicate, List.length_drop, HL.out.2 t]; omega
          have hO2 := hO
          rw [HV.out] at hO2
          obtain ⟨g, rfl⟩ := hO2.addr (by rw [hlen]; omega)
          obtain ⟨cc, ff⟩ := hO2.cells u (by rw [hlen]; exact hul)
          have HF2 := Keep.mk (hF.set HS.out hlt HV.out u ((t : Int) + 1))
          rw [updN_self, fill_next (Ls t) u ((t : Int) + 1) (by rw [HL.out.2 t]; exact hul)] at HF2
          have hup : ∀ y, updN (updN Ls t (List.replicate u ((t : Int) + 1) ++ (Ls t).drop u)) t y = updN Ls t y := fun y => by
            funext j
            by_cases e : j = t
            · subst e; rw [updN_self, updN_self]
            · rw [updN_ne _ _ e, updN_ne _ _ e, updN_ne _ _ e]
          rw [hup] at HF2
          generalize (List.replicate u ((t : Int) + 1) ++ (Ls t).drop u).getD u 0 = z at *
          clear hF hO hO2 hlen hup
          go_wp2
          go_roundw
          case rel => exact ⟨u + 1, by omega, by go_num, HF2.out⟩
          case measure => simp only [intOf]; omega
        · obtain rfl : u = n t := by omega
          have hul' : ¬ ((n t : Int) < (n t : Int)) := by omega
          have HF2 := Keep.mk hF
          clear hF
          go_wp2
          go_roundw
          case rel =>
            refine ⟨t + 1, _, by omega, by go_num, ⟨fun j hj => ?_, fun j => ?_⟩, HF2.out⟩
            · by_cases e : j = t
              · subst e; rw [updN_self, List.drop_of_length_le (by rw [HL.out.2 j]; exact Nat.le_refl _), List.append_nil]
              · rw [updN_ne _ _ e]; exact HL.out.1 j (by omega)
            · by_cases e : j = t
              · subst e; rw [updN_self, List.length_append, List.length_replicate, List.length_drop, HL.out.2 j]; omega
              · rw [updN_ne _ _ e]; exact HL.out.2 j
          case measure => simp only [intOf]; omega
    · obtain rfl : t = m := by omega
      have hlt' : ¬ ((t : Int) < (t : Int)) := by omega
      have HF2 : Keep (Lng w gl t V n 0 (.slice (some ⟨wr.heap.size, 0, none⟩) 0 0) (fun _ => .nilIface) (fun _ => False) (wr.alloc (.cells #[] 22))) := ⟨Fil.lng ⟨hF.tab, fun j hj => by have h := hF.own j hj; rw [HL.out.1 j hj] at h; exact h, hF.gr⟩ HG0.out hF.gr.size⟩
      clear hF HL
      go_wp2_with fail
      generalize wr.alloc (.cells #[] 22) = w5 at *
      obtain ⟨lo0, hlo0⟩ : ∃ lo0, Keep (lo0 = Value.slice (some ⟨wr.heap.size, 0, none⟩) 0 0) := ⟨_, ⟨rfl⟩⟩
      go_loopw [5, 6] (fun lo i wr => ∃ (u : Nat) (lo1 : Value) (X : Nat → Value) (F : Nat → Prop), u ≤ t ∧ lo = lo1 ∧ i = .int .i64 (u : Int) ∧ Lng w gl t V n u lo1 X F wr) (fun _ i _ => t - (intOf i).toNat)
      case atStart => exact ⟨0, _, _, _, by omega, rfl, rfl, HF2.out⟩
      case round =>
        clear HF2 hlo0
        obtain ⟨u, lo, X, F, hu, hlo, rfl, hL⟩ := hrel
        have hlo := hlo.symm
        subst hlo
        obtain ⟨wq, rfl⟩ : ∃ wq, wq = wr := ⟨_, rfl⟩
        by_cases hul : u < t
        · have hul' : (u : Int) < (t : Int) := by omega
          have hwr : IntKind.u8.wrap ((u : Int) + 1) = (u : Int) + 1 := by rw [IntKind.wrap_u8]; omega
          have HNu : Keep (n u + 71 ≤ 140737488355328) := ⟨by have := HN.out u hul; rw [← hnn.out u] at this; exact this⟩
          have ct := hL.at hul
          have hO := hL.own u (Nat.le_refl _) hul
          obtain ⟨va, vc, hv⟩ := hO.slN
          rw [List.length_replicate] at hv
          have HV := Keep.mk hv
          have HOu := Keep.mk hO
          rw [hv] at ct
          have HL := Keep.mk hL
          have HG : Keep (G2 wq (V u) (.slice va (n u) vc) (n u) 0 ((u : Int) + 1) wq) := ⟨⟨by rw [← hv]; exact hO, hO.row, fun k hk => hO.typ hk, .inl (by rw [hv]), Grown.refl _ _⟩⟩
          clear hL hO hv
          go_wp2_with fail
          go_loopw [7, 8] (fun x k wi => ∃ (y : Nat) (x1 : Value), y ≤ 70 ∧ x = x1 ∧ k = .int .i64 (y : Int) ∧ G2 wq (V u) x1 (n u) y ((u : Int) + 1) wi) (fun _ k _ => 70 - (intOf k).toNat)
          case atStart => exact ⟨0, _, by omega, rfl, rfl, HG.out⟩
          case round =>
            clear HG ct
            obtain ⟨y, x, hy, rfl, rfl, hG⟩ := hrel
            obtain ⟨wi, rfl⟩ : ∃ wi, wi = wr := ⟨_, rfl⟩
            obtain ⟨xa, xn, xc, rfl⟩ := hG.own.sl
            by_cases hyl : y < 70
            · have hyl' : (y : Int) < 70 := by omega
              have HG := Keep.mk hG
              have HO1 := Keep.mk (hG.own.box (.cells #[.int .u8 ((u : Int) + 1)] 5))
              have hlen : Keep ((List.replicate (n u + y) ((u : Int) + 1)).length + 1 ≤ 140737488355328) := ⟨by rw [List.length_replicate]; have := HNu.out; omega⟩
              have HC1 : Keep ((wi.alloc (.cells #[.int .u8 ((u : Int) + 1)] 5)).cell? ⟨wi.heap.size, 0, none⟩ = some (.int .u8 ((u : Int) + 1))) := ⟨by rw [(Blk.new wi 5 #[.int .u8 ((u : Int) + 1)]).cell]; rfl⟩
              clear hG
              go_wp2_with (first | (at_builtin; refine wpList_appT rfl (.tmp 50) (.tmp 54) rfl (.slice xa xn xc) (List.replicate (n u + y) ((u : Int) + 1)) wi.heap.size ((u : Int) + 1) rfl rfl HO1.out HC1.out hlen.out ?_; intro v' w' hp; refine Hid.out ?_))
              refine hid_in ?_
              have HG2 := Keep.mk (HG.out.next HV.out HOu.out _ hp)
              clear hp HG HO1 HC1
              go_wp2
              go_roundw
              case rel => exact ⟨y + 1, _, by omega, rfl, by go_num, HG2.out⟩
              case measure => simp only [intOf]; omega
            · obtain rfl : y = 70 := by omega
              have HG := Keep.mk hG
              have HOl : Keep (OwnV (wi.alloc (.cells #[.slice xa xn xc] 22)) lo ((List.range u).map X)) := ⟨(HL.out.lg.grown hG.gr fun k hk e => absurd ((HOu.out.typ e).one (HL.out.lg.typ hk)) (by decide)).grown (Grown.alloc wi _ fun _ => False) fun _ _ h => h⟩
              have HC1 : Keep ((wi.alloc (.cells #[.slice xa xn xc] 22)).cell? ⟨wi.heap.size, 0, none⟩ = some (.slice xa xn xc)) := ⟨by rw [(Blk.new wi 22 #[.slice xa xn xc]).cell]; rfl⟩
              clear hG
              go_wp2_with (first | (at_builtin; refine wpList_appV rfl (.tmp 56) (.tmp 58) rfl lo (.slice xa xn xc) ((List.range u).map X) wi.heap.size rfl rfl rfl HOl.out HC1.out (by simp; omega) ?_; intro v' w' hp1 hp2 hp3; refine Hid.out ?_))
              refine hid_in ?_
              have HL2 := Keep.mk (HL.out.next HS.out hul HG.out hp1 hp2 hp3)
              clear hp1 hp2 hp3 HOl HC1 HG HL
              go_wp2
              go_roundw
              case rel => exact ⟨u + 1, _, _, _, by omega, rfl, by go_num, HL2.out⟩
              case measure => simp only [intOf]; omega
        · obtain rfl : u = t := by omega
          have hul' : ¬ ((u : Int) < (u : Int)) := by omega
          have HL := Keep.mk hL
          clear hL
          go_wp2_with fail
          obtain ⟨lb, lc, hlo⟩ := HL.out.lg.sl
          rw [List.length_map, List.length_range] at hlo
          subst hlo
          obtain ⟨wz, rfl⟩ : ∃ wz, wz = wq := ⟨_, rfl⟩
          go_loop [9] (fun i => ∃ p : Nat, p ≤ u ∧ i = .int .i64 (p : Int)) (fun i => u - (intOf i).toNat)
          case atStart => exact ⟨0, by omega, rfl⟩
          case round =>
            obtain ⟨p, hp, rfl⟩ := hrel
            by_cases hpl : p < u
            · have hpl' : (p : Int) < (u : Int) := by omega
              have hwr : IntKind.u8.wrap ((p : Int) + 1) = (p : Int) + 1 := by rw [IntKind.wrap_u8]; omega
              have hnp : (n p : Int) ≤ 140737488355257 := by have := HN.out p hpl; have := hnn.out p; omega
              have cV := HL.out.at hpl
              obtain ⟨va, vc, hva⟩ := row_n (HL.out.ra p hpl)
              obtain ⟨xa, xc, hxa⟩ := row_n (HL.out.rb p hpl)
              obtain ⟨gx, cx, hgx, hcx⟩ := HL.out.lg.at p (by simp; exact hpl)
              rw [List.length_map, List.length_range] at hgx
              injection hgx with hgx1 hgx2 hgx3
              subst hgx1 hgx3
              have cX : wz.cell? ⟨gx, p, none⟩ = some (X p) := by rw [hcx]; simp [hpl]
              have HVp := Keep.mk hva
              have HXp := Keep.mk hxa
              rw [hva] at cV
              rw [hxa] at cX
              clear hva hxa hcx hgx2
              go_wp2_with fail
              go_loop [10] (fun k => ∃ y : Nat, y ≤ n p + 70 ∧ k = .int .i64 (y : Int)) (fun k => n p + 70 - (intOf k).toNat)
              case atStart => exact ⟨0, by omega, rfl⟩
              case round =>
                obtain ⟨y, hy, rfl⟩ := hrel
                by_cases hyl : y < n p + 70
                · have hyl' : (y : Int) < (n p : Int) + 70 := by omega
                  obtain ⟨xb, xo, hxb, cY⟩ := row_at (HL.out.rb p hpl) HXp.out hyl
                  subst hxb
                  by_cases hyv : y < n p
                  · have hyv' : (y : Int) < (n p : Int) := by omega
                    obtain ⟨vb, vo, hvb, cW⟩ := row_at (HL.out.ra p hpl) HVp.out hyv
                    subst hvb
                    go_wp2
                    refine ⟨⟨y + 1, by omega, by go_num⟩, by simp only [intOf]; omega⟩
                  · have hyv' : ¬ ((y : Int) < (n p : Int)) := by omega
                    go_wp2
                    refine ⟨⟨y + 1, by omega, by go_num⟩, by simp only [intOf]; omega⟩
                · obtain rfl : y = n p + 70 := by omega
                  have hyl' : ¬ ((n p : Int) + 70 < (n p : Int) + 70) := by omega
                  go_wp2
                  refine ⟨⟨p + 1, by omega, by go_num⟩, by simp only [intOf]; omega⟩
            · obtain rfl : p = u := by omega
              have hpl' : ¬ ((p : Int) < (p : Int)) := by omega
              have HGr := Keep.mk HL.out.gr
              go_wp2
              go_ret
              exact ⟨rfl, HGr.out⟩
end Go.Proofs.YtpakaladpdoejaaDoor
