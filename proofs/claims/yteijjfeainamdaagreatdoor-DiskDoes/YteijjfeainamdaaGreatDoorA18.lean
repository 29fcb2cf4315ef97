import Derived.Test.YteijjfeainamdaaGreatDoorA07
import Derived.Test.YteijjfeainamdaaGreatDoorA12
import Derived.Test.YteijjfeainamdaaGreatDoorA17
import Derived.Test.YteijjfeainamdaaGreatDoorA13
import Derived.Deep.RegionHeld3
import Derived.Lib.SlBytesConst
import Derived.Lib.Small
namespace Go.Proofs.YteijjfeainamdaaGreatDoor
open Go.RowKit
set_option linter.unusedSimpArgs false
set_option linter.unusedVariables false

theorem nextW_like {c d : Nat → Int} {t : Nat} (ht : 16 ≤ t) (h : ∀ i, i < t → c i = d i) : nextW c t = nextW d t := by
 unfold nextW; rw [h (t - 16) (by omega), h (t - 15) (by omega), h (t - 7) (by omega), h (t - 2) (by omega)]
theorem be32_like {c d : Nat → Int} {t : Nat} (ht : t < 16) (h : ∀ i, i < 64 → c i = d i) : be32 c t = be32 d t := by
 unfold be32; rw [h (4 * t) (by omega), h (4 * t + 1) (by omega), h (4 * t + 2) (by omega), h (4 * t + 3) (by omega)]
def rL (r : R8) : List Int := [r.a, r.b, r.c, r.d, r.e, r.f, r.g, r.h]
def rOf (l : List Int) : R8 := r8 (fun i => l.getD i 0)
theorem rOf_L (r : R8) : rOf (rL r) = r := rfl
structure STab (S B W : List Int) (R : List (List Int)) (O : List Int) : Prop where
 w : ∀ t : Fin 64, (if t.val < 16 then be32 (fun i => B.getD i 0) t.val else nextW (fun i => W.getD i 0) t.val) = W.getD t.val 0
 r : ∀ t : Fin 64, rL (stepF (roundsF t.val) (W.getD t.val 0) (rOf (R.getD t.val []))) = R.getD (t.val + 1) []
 r0 : rL (rOf S) = R.getD 0 []
 o : ∀ i : Fin 8, outF (fun i => S.getD i 0) (rOf (R.getD 64 [])) i.val = O.getD i.val 0
theorem STab.sch {S B W : List Int} {R : List (List Int)} {O : List Int} (h : STab S B W R O) (p : Nat → Int) (hp : ∀ i, i < 64 → p i = B.getD i 0) (t : Nat) (ht : t ≤ 64) : ∀ i, i < t → sched p t i = W.getD i 0 := by
 induction t with
 | zero => intro i h; omega
 | succ t ih =>
  intro i hi
  simp only [sched, upd]
  by_cases e : i = t
  ·subst e
   rw [if_pos rfl, ← h.w ⟨i, by omega⟩]
   by_cases h16 : i < 16
   ·rw [if_pos h16, if_pos h16]; exact be32_like h16 hp
   ·rw [if_neg h16, if_neg h16]; exact nextW_like (by omega) (fun j hj => ih (by omega) j hj)
  ·rw [if_neg e]; exact ih (by omega) i (by omega)
theorem r8_like {c d : Nat → Int} (h : ∀ i, i < 8 → c i = d i) : r8 c = r8 d := by
 unfold r8; rw [h 0 (by omega), h 1 (by omega), h 2 (by omega), h 3 (by omega), h 4 (by omega), h 5 (by omega), h 6 (by omega), h 7 (by omega)]
theorem outF_like {c d : Nat → Int} (h : ∀ i, i < 8 → c i = d i) (r : R8) : outF c r = outF d r := by
 funext i; unfold outF; rw [h 0 (by omega), h 1 (by omega), h 2 (by omega), h 3 (by omega), h 4 (by omega), h 5 (by omega), h 6 (by omega), h 7 (by omega)]
theorem STab.run {S B W : List Int} {R : List (List Int)} {O : List Int} (h : STab S B W R O) (s : Nat → Int) (hs : ∀ i, i < 8 → s i = S.getD i 0) (ww : Nat → Int) (hw : ∀ i, i < 64 → ww i = W.getD i 0) (t : Nat) (ht : t ≤ 64) : rL (runF roundsF ww (r8 s) t) = R.getD t [] := by
 induction t with
 | zero => rw [← h.r0]; show rL (r8 s) = rL (rOf S); rw [show r8 s = rOf S from r8_like hs]
 | succ t ih =>
  simp only [runF]
  rw [← h.r ⟨t, by omega⟩, ← ih (by omega), rOf_L, hw t (by omega)]
theorem STab.mix {S B W : List Int} {R : List (List Int)} {O : List Int} (h : STab S B W R O) (s : Nat → Int) (hs : ∀ i, i < 8 → s i = S.getD i 0) (p : Nat → Int) (hp : ∀ i, i < 64 → p i = B.getD i 0) : ∀ i, i < 8 → mixF s p i = O.getD i 0 := by
 intro i hi
 have h1 := h.run s hs (sched p 64) (h.sch p hp 64 (Nat.le_refl _)) 64 (Nat.le_refl _)
 unfold mixF
 rw [← rOf_L (runF roundsF (sched p 64) (r8 s) 64), h1, outF_like hs]
 exact h.o ⟨i, hi⟩
def piece0 (C : List Int) : Nat → Int := putN (putN (fun _ => 0) 0 C.length fun i => C.getD i 0) C.length (64 - C.length) (endX C.length)
theorem sha_one (C : List Int) (hC : C.length ≤ 55) : shaP C = layUp (mixF beginF (piece0 C)) 8 := by
 have h2 : absorbL dg0 C = ⟨beginF, putN (fun _ => 0) 0 C.length (fun i => C.getD i 0), C.length⟩ := by
  rw [← absorbN_all, absorb_chunk dg0 _ C.length (by show 0 % 64 + C.length ≤ 64; omega)]
  rw [if_neg (by show ¬ 0 % 64 + C.length = 64; omega)]
  simp [dg0]
 have hz : zerosF C.length + 9 = 64 - C.length := by unfold zerosF; omega
 have hm : C.length % 64 = C.length := by omega
 unfold shaP sumF
 rw [h2]
 dsimp only
 rw [hz, absorb_chunk _ _ (64 - C.length) (by dsimp only; omega)]
 dsimp only
 rw [hm, if_pos (by omega)]
 rfl
theorem layUp_like {c d : Nat → Int} (h : ∀ i, i < 8 → c i = d i) (t : Nat) (ht : t ≤ 8) : layUp c t = layUp d t := by
 induction t with
 | zero => rfl
 | succ t ih => simp only [layUp]; rw [ih (by omega), h t (by omega)]
def abS : List Int := [1779033703, 3144134277, 1013904242, 2773480762, 1359893119, 2600822924, 528734635, 1541459225]
def abB : List Int := [97, 98, 128, 0, 0, 0, 0, 0, 0, 0, 0, 0, 0, 0, 0, 0, 0, 0, 0, 0, 0, 0, 0, 0, 0, 0, 0, 0, 0, 0, 0, 0, 0, 0, 0, 0, 0, 0, 0, 0, 0, 0, 0, 0, 0, 0, 0, 0, 0, 0, 0, 0, 0, 0, 0, 0, 0, 0, 0, 0, 0, 0, 0, 16]
def abW : List Int := [1633845248, 0, 0, 0, 0, 0, 0, 0, 0, 0, 0, 0, 0, 0, 0, 16, 1633845248, 655360, 270033981, 1073742468, 1050487830, 16951296, 864452582, 1650638859, 4027399724, 1211410954, 2028988364, 4277374028, 268710035, 3944143914, 549890843, 1386658034, 2860467165, 1704602302, 1491927166, 12639368, 4093457531, 3985429324, 1833301693, 155258341, 3528335737, 3062717792, 3012079207, 539425273, 1076043381, 2496143508, 1471727768, 3093250499, 3643758778, 432964173, 3888910579, 1993602963, 3286075862, 3578358685, 600467822, 3702232564, 3868419969, 1230845418, 1369500673, 1165505681, 3029804626, 3722238860, 3963502664, 1311518612]
def abR : List (List Int) := [[1779033703, 3144134277, 1013904242, 2773480762, 1359893119, 2600822924, 528734635, 1541459225],
 [1567295565, 1779033703, 3144134277, 1013904242, 4197081762, 1359893119, 2600822924, 528734635],
 [3771592872, 1567295565, 1779033703, 3144134277, 3904903575, 4197081762, 1359893119, 2600822924],
 [1244149001, 3771592872, 1567295565, 1779033703, 311372123, 3904903575, 4197081762, 1359893119],
 [3332301780, 1244149001, 3771592872, 1567295565, 2385191175, 311372123, 3904903575, 4197081762],
 [3636599127, 3332301780, 1244149001, 3771592872, 521228548, 2385191175, 311372123, 3904903575],
 [151833283, 3636599127, 3332301780, 1244149001, 3932515056, 521228548, 2385191175, 311372123],
 [3520778562, 151833283, 3636599127, 3332301780, 2885927810, 3932515056, 521228548, 2385191175],
 [2655857540, 3520778562, 151833283, 3636599127, 905708628, 2885927810, 3932515056, 521228548],
 [4057219706, 2655857540, 3520778562, 151833283, 3794789662, 905708628, 2885927810, 3932515056],
 [3376610011, 4057219706, 2655857540, 3520778562, 29887585, 3794789662, 905708628, 2885927810],
 [4181491042, 3376610011, 4057219706, 2655857540, 3261941830, 29887585, 3794789662, 905708628],
 [1858790193, 4181491042, 3376610011, 4057219706, 1863726812, 3261941830, 29887585, 3794789662],
 [199566772, 1858790193, 4181491042, 3376610011, 2864275867, 1863726812, 3261941830, 29887585],
 [371626581, 199566772, 1858790193, 4181491042, 3081593237, 2864275867, 1863726812, 3261941830],
 [1479292645, 371626581, 199566772, 1858790193, 4112109337, 3081593237, 2864275867, 1863726812],
 [1686594463, 1479292645, 371626581, 199566772, 1731442211, 4112109337, 3081593237, 2864275867],
 [3808100401, 1686594463, 1479292645, 371626581, 3261428162, 1731442211, 4112109337, 3081593237],
 [377016914, 3808100401, 1686594463, 1479292645, 918499731, 3261428162, 1731442211, 4112109337],
 [3565255831, 377016914, 3808100401, 1686594463, 3513426526, 918499731, 3261428162, 1731442211],
 [1319397705, 3565255831, 377016914, 3808100401, 3351631961, 3513426526, 918499731, 3261428162],
 [2383999480, 1319397705, 3565255831, 377016914, 2452434827, 3351631961, 3513426526, 918499731],
 [2905686982, 2383999480, 1319397705, 3565255831, 631500222, 2452434827, 3351631961, 3513426526],
 [3243406427, 2905686982, 2383999480, 1319397705, 2536336219, 631500222, 2452434827, 3351631961],
 [3796629245, 3243406427, 2905686982, 2383999480, 2290349548, 2536336219, 631500222, 2452434827],
 [3487408536, 3796629245, 3243406427, 2905686982, 2617050184, 2290349548, 2536336219, 631500222],
 [94234649, 3487408536, 3796629245, 3243406427, 2780545362, 2617050184, 2290349548, 2536336219],
 [1156166818, 94234649, 3487408536, 3796629245, 3360626021, 2780545362, 2617050184, 2290349548],
 [3480678056, 1156166818, 94234649, 3487408536, 3639247255, 3360626021, 2780545362, 2617050184],
 [1546931861, 3480678056, 1156166818, 94234649, 1223860325, 3639247255, 3360626021, 2780545362],
 [1331118160, 1546931861, 3480678056, 1156166818, 367170130, 1223860325, 3639247255, 3360626021],
 [1207172810, 1331118160, 1546931861, 3480678056, 4044388681, 367170130, 1223860325, 3639247255],
 [3627086696, 1207172810, 1331118160, 1546931861, 2950343182, 4044388681, 367170130, 1223860325],
 [546573902, 3627086696, 1207172810, 1331118160, 3201109086, 2950343182, 4044388681, 367170130],
 [473520161, 546573902, 3627086696, 1207172810, 2154977910, 3201109086, 2950343182, 4044388681],
 [1887836829, 473520161, 546573902, 3627086696, 1021545293, 2154977910, 3201109086, 2950343182],
 [1946675235, 1887836829, 473520161, 546573902, 2332314153, 1021545293, 2154977910, 3201109086],
 [2034328568, 1946675235, 1887836829, 473520161, 2719171134, 2332314153, 1021545293, 2154977910],
 [2892689888, 2034328568, 1946675235, 1887836829, 1417702456, 2719171134, 2332314153, 1021545293],
 [1769691782, 2892689888, 2034328568, 1946675235, 1306867109, 1417702456, 2719171134, 2332314153],
 [3972128353, 1769691782, 2892689888, 2034328568, 1414974918, 1306867109, 1417702456, 2719171134],
 [1653937629, 3972128353, 1769691782, 2892689888, 1612974288, 1414974918, 1306867109, 1417702456],
 [1432415604, 1653937629, 3972128353, 1769691782, 4141964346, 1612974288, 1414974918, 1306867109],
 [2720816116, 1432415604, 1653937629, 3972128353, 2845218806, 4141964346, 1612974288, 1414974918],
 [3022584952, 2720816116, 1432415604, 1653937629, 4169443278, 2845218806, 4141964346, 1612974288],
 [3264630472, 3022584952, 2720816116, 1432415604, 63171240, 4169443278, 2845218806, 4141964346],
 [3788923304, 3264630472, 3022584952, 2720816116, 1966230554, 63171240, 4169443278, 2845218806],
 [1072399976, 3788923304, 3264630472, 3022584952, 2496479254, 1966230554, 63171240, 4169443278],
 [2364285374, 1072399976, 3788923304, 3264630472, 3399227669, 2496479254, 1966230554, 63171240],
 [3021842557, 2364285374, 1072399976, 3788923304, 2860269664, 3399227669, 2496479254, 1966230554],
 [296396287, 3021842557, 2364285374, 1072399976, 3729271561, 2860269664, 3399227669, 2496479254],
 [1724366874, 296396287, 3021842557, 2364285374, 3506490391, 3729271561, 2860269664, 3399227669],
 [2305248929, 1724366874, 296396287, 3021842557, 1533091901, 3506490391, 3729271561, 2860269664],
 [1261157241, 2305248929, 1724366874, 296396287, 1928495236, 1533091901, 3506490391, 3729271561],
 [3240460378, 1261157241, 2305248929, 1724366874, 1601898865, 1928495236, 1533091901, 3506490391],
 [3883034754, 3240460378, 1261157241, 2305248929, 1618254821, 1601898865, 1928495236, 1533091901],
 [3189420121, 3883034754, 3240460378, 1261157241, 1341434994, 1618254821, 1601898865, 1928495236],
 [1248977900, 3189420121, 3883034754, 3240460378, 652264656, 1341434994, 1618254821, 1601898865],
 [3428054140, 1248977900, 3189420121, 3883034754, 3566533041, 652264656, 1341434994, 1618254821],
 [2940877708, 3428054140, 1248977900, 3189420121, 3913631457, 3566533041, 652264656, 1341434994],
 [2411834110, 2940877708, 3428054140, 1248977900, 2687410524, 3913631457, 3566533041, 652264656],
 [822279815, 2411834110, 2940877708, 3428054140, 4185995498, 2687410524, 3913631457, 3566533041],
 [1341247529, 822279815, 2411834110, 2940877708, 964681381, 4185995498, 2687410524, 3913631457],
 [1927581855, 1341247529, 822279815, 2411834110, 4235600577, 964681381, 4185995498, 2687410524],
 [2441362069, 1927581855, 1341247529, 822279815, 3814999612, 4235600577, 964681381, 4185995498]]
def abO : List Int := [4220395772, 776748836, 2355151771, 3595760577, 879925435, 2541456205, 1493416016, 1432487427]
def abH : List Int := [251, 142, 32, 252, 46, 76, 63, 36, 140, 96, 195, 155, 214, 82, 243, 193, 52, 114, 152, 187, 151, 123, 139, 77, 89, 3, 184, 80, 85, 98, 6, 3]
theorem abT : STab abS abB abW abR abO where
 w := by decide +kernel
 r := by decide +kernel
 r0 := by decide +kernel
 o := by decide +kernel
theorem ab_p : ∀ i : Fin 64, piece0 [97, 98] i.val = abB.getD i.val 0 := by decide +kernel
theorem ab_b : ∀ i : Fin 8, beginF i.val = abS.getD i.val 0 := by decide +kernel
theorem ab_l : ∀ i : Fin 32, layUp (fun i => abO.getD i 0) 8 i.val = abH.getD i.val 0 := by decide +kernel
theorem ab_sha (i : Nat) (hi : i < 32) : shaP [97, 98] i = abH.getD i 0 := by
 rw [sha_one [97, 98] (by decide)]
 have h1 := abT.mix beginF (fun i hi => ab_b ⟨i, hi⟩) (piece0 [97, 98]) (fun i hi => ab_p ⟨i, hi⟩)
 rw [layUp_like (d := fun i => abO.getD i 0) h1 8 (Nat.le_refl _)]
 exact ab_l ⟨i, hi⟩
theorem Tryz.in4 (w : World) (vs : Array Value) : (callFunc 4 vs).run Tryz.prog w = .ok (.enter 4 vs) w := by kernel_rfl
theorem bsAB (w : World) : (Instr.buildSlice 40 2 #[(0, .int .u8 97), (1, .int .u8 98)]).run Tryz.prog w = .ok (.slice (some ⟨w.heap.size, 0, none⟩) 2 2) (w.alloc (.cells (bv [97, 98]).toArray 5)) := by kernel_rfl
def abF : List Int := [2, 0, 0, 0, 253, 255, 255, 255, 251, 142, 32, 252, 46, 76, 63, 36, 97, 98]
theorem ab_frame : (hl 16 (hdF [97, 98]) ++ [97, 98]) = abF := by
 have h : ∀ i, i < 8 → shaP [97, 98] i = abH.getD i 0 := fun i hi => ab_sha i (by omega)
 have e : hl 16 (hdF [97, 98]) = [2, 0, 0, 0, 253, 255, 255, 255, shaP [97, 98] 0, shaP [97, 98] 1, shaP [97, 98] 2, shaP [97, 98] 3, shaP [97, 98] 4, shaP [97, 98] 5, shaP [97, 98] 6, shaP [97, 98] 7] := by
  unfold hdF
  generalize shaP [97, 98] = s
  rfl
 rw [e, h 0 (by omega), h 1 (by omega), h 2 (by omega), h 3 (by omega), h 4 (by omega), h 5 (by omega), h 6 (by omega), h 7 (by omega)]
 rfl
theorem ab_str : strOfNums abF = ⟨#[2, 0, 0, 0, 253, 255, 255, 255, 251, 142, 32, 252, 46, 76, 63, 36, 97, 98]⟩ := by decide +kernel
theorem fnd_one (l : List Int) (z : Int) : fnd (nmS 0) [⟨nmS 0, l, z⟩] 0 = (0, true) := by
 rw [nmS_0]
 unfold fnd
 rw [if_neg (show ¬ Op.bytesLess (⟨#[106, 48, 48, 48, 48]⟩ : ByteArray).toList (⟨#[106, 48, 48, 48, 48]⟩ : ByteArray).toList = true by decide +kernel)]
 exact congrArg (Prod.mk 0) (show ((⟨#[106, 48, 48, 48, 48]⟩ : ByteArray).toList == (⟨#[106, 48, 48, 48, 48]⟩ : ByteArray).toList) = true by decide +kernel)
theorem row_fr {w : World} {g : Nat} {l : List Int} {cs : Array Value} {fr : Nat × Nat} (h : w.heap[g]? = some (.cells cs 5 fr)) (he : cs = (bv l).toArray) (cap : Nat) (hc : l.length ≤ cap) : RowAt w (.slice (some ⟨g, 0, none⟩) l.length cap) l :=
 .inr (.inr ⟨g, 0, cap, rfl, hc, fun i hi => by rw [Nat.zero_add, cell_of_row w g i cs 5 fr h, he, List.getElem?_toArray, bv_get _ _ hi]⟩)
set_option maxRecDepth 8000 in
set_option maxHeartbeats 2000000 in
theorem awake_any (w : World) (hT : Tab w) (hZ : 0 < w.heap.size) : Calls Tryz.prog 4 #[] w fun e w' => e = .returned (.bool true) ∧ Below w.heap.size w w' := by
 have HT := Keep.mk hT
 have HZ := Keep.mk hZ
 clear hT hZ
 go_enter Tryz.func4, Tryz.ntmps4
 refine wp_seq_k fun K1 hK1 => rgn ?_
 refine VbF ?_
 refine WL.nil (hK1 _ _ ?_)
 refine wp_seq_k fun K2 hK2 => rgn ?_
 refine WL.callF (by kernel_rfl) 14 _ _ rfl Tryz.in14 #[.int .i64 1000] (by simp [Act.eval]) ?_
 refine (dnew_any 1000 w).mono ?_
 rintro e w1 ⟨ps, pd, ph, rfl, h1, h2, h3, h4, h5, h6, h7⟩
 refine ⟨_, rfl, ?_⟩
 have HD1 : Keep (DskAt w1 ps (.slice none 0 0) [] ⟨[], 1000, 0, -1, false, 0⟩) := ⟨h1⟩
 have HK1 := Keep.mk h2
 have HH1 := Keep.mk h3
 have LB : Keep (w.heap.size ≤ ps ∧ w.heap.size ≤ pd ∧ w.heap.size ≤ ph) := ⟨h4, h5, h6⟩
 have B1 := Keep.mk h7
 have HT1 : Keep (Tab w1) := ⟨HT.out.below h7 HZ.out⟩
 clear h1 h2 h3 h4 h5 h6 h7
 simp only [Act.put, pqA, pqB, pqC]
 refine VlS (.tuple #[.pointer (some ⟨pd, 0, none⟩), .pointer (some ⟨ph, 0, none⟩)]) ?_
 refine VlS (.pointer (some ⟨pd, 0, none⟩)) ?_
 refine VlS (.pointer (some ⟨ph, 0, none⟩)) ?_
 refine VlS (.pointer (some ⟨pd, 0, none⟩)) ?_
 refine VlS (.pointer (some ⟨ph, 0, none⟩)) ?_
 refine WL.nil (hK2 _ _ ?_)
 refine wp_seq_k fun K3 hK3 => rgn ?_
 refine VlS (.pointer (some ⟨pd, 0, none⟩)) ?_
 refine WL.callF (by kernel_rfl) 17 _ _ rfl Tryz.in17 #[ptr pd] (by simp [Act.eval]) ?_
 refine (open_none pd ps w1 HT1.out (HK1.out.c 0 rfl) (HD1.out.blk.c 4 rfl) (HD1.out.blk.c 0 rfl)).mono ?_
 rintro e w2 ⟨g, pg, rfl, h1, h2, h3⟩
 refine ⟨_, rfl, ?_⟩
 have HJ2 := Keep.mk h1
 have LG : Keep (w.heap.size ≤ g) := ⟨Nat.le_trans B1.out.size h2⟩
 have HD2 := Keep.mk (HD1.out.below h3)
 have HK2 := Keep.mk (HK1.out.below h3 HK1.out.lt)
 have HH2 := Keep.mk (HH1.out.below h3 HH1.out.lt)
 have B2 : Keep (Below w.heap.size w w2) := ⟨B1.out.trans (h3.mono B1.out.size)⟩
 clear h1 h2 h3 HD1 HK1 HH1 HT1
 simp only [Act.put, pqA, pqB, pqC]
 refine VlS (.tuple #[.pointer (some ⟨g, 0, none⟩), .slice (some ⟨pg, 0, none⟩) 0 0, .int .i64 0]) ?_
 refine VlS (.pointer (some ⟨g, 0, none⟩)) ?_
 refine VlS (.slice (some ⟨pg, 0, none⟩) 0 0) ?_
 refine VlS (.int .i64 0) ?_
 refine VlS (.pointer (some ⟨g, 0, none⟩)) ?_
 refine VlS (.slice (some ⟨pg, 0, none⟩) 0 0) ?_
 refine VlS (.int .i64 0) ?_
 refine WL.nil (hK3 _ _ ?_)
 refine wp_seq_k fun K4 hK4 => ?_
 refine wp_seq_k fun K5 hK5 => rgn ?_
 refine VlS (.int .i64 0) ?_
 refine VbF ?_
 refine VbF ?_
 refine VlS (.pointer (some ⟨g, 0, none⟩)) ?_
 refine VbF ?_
 refine VbF ?_
 refine VbF ?_
 refine VlS (.slice (some ⟨pg, 0, none⟩) 0 0) ?_
 refine VlS (.int .i64 0) ?_
 refine VbF ?_
 refine VbF ?_
 refine VbF ?_
 refine VlS (.pointer (some ⟨g, 0, none⟩)) ?_
 refine WL.bs (by kernel_rfl) 40 2 _ rfl #[(0, .int .u8 97), (1, .int .u8 98)] (by simp [Act.eval]) _ _ (bsAB w2) ?_
 simp only [Act.put, pqA, pqB, pqC]
 have hcc := Lib.run_convert_bytes_const (P := Tryz.prog) w2 40 5 (bv [97, 98]).toArray 2 2 Tryz.underlying40 Tryz.underlying5
 obtain ⟨w3, hw3⟩ : ∃ wx, Keep (wx = w2.alloc (.cells (bv [97, 98]).toArray 5 (((bv [97, 98]).toArray).size, ((bv [97, 98]).toArray).size + 1))) := ⟨_, ⟨rfl⟩⟩
 rw [← hw3.out] at hcc
 refine WL.valW (by kernel_rfl) (.slice (some ⟨w2.heap.size, 0, none⟩) 2 2) w3 (by go_simp) ?_
 clear hcc
 have hbx : Below w2.heap.size w2 w3 := by rw [hw3.out]; exact below_new w2 _
 have HR3 : Keep (RowAt w3 (.slice (some ⟨w2.heap.size, 0, none⟩) 2 2) [97, 98]) := ⟨by rw [hw3.out]; exact row_fr (l := [97, 98]) (heap_alloc_new w2 _) rfl 2 (by decide)⟩
 have HJ3 := Keep.mk (HJ2.out.below hbx HJ2.out.lt)
 have HD3 := Keep.mk (HD2.out.below hbx)
 have HK3 := Keep.mk (HK2.out.below hbx HK2.out.lt)
 have HH3 := Keep.mk (HH2.out.below hbx HH2.out.lt)
 have B3 : Keep (Below w.heap.size w w3) := ⟨B2.out.trans (hbx.mono B2.out.size)⟩
 have HT3 : Keep (Tab w3) := ⟨HT.out.below B3.out HZ.out⟩
 clear hbx HJ2 HD2 HK2 HH2 hw3
 obtain ⟨gb, hgb⟩ : ∃ q, Keep (q = w2.heap.size) := ⟨_, ⟨rfl⟩⟩
 rw [← hgb.out] at HR3 ⊢
 simp only [Act.put, pqA, pqB, pqC]
 have hja := japp_none g pd ps 0 (.slice (some ⟨gb, 0, none⟩) 2 2) (.slice none 0 0) (.slice none 0 0) [97, 98] [] ⟨[], 1000, 0, -1, false, 0⟩ [] 0 false w3 HT3.out HJ3.out HK3.out HD3.out (ownP_nil _) (fun k hk => by cases hk) (by decide) rfl rfl (by decide) (by decide) (by decide) (by decide) (by decide) HR3.out
 refine WL.callF (by kernel_rfl) 18 _ _ rfl Tryz.in18 #[ptr g, .slice (some ⟨gb, 0, none⟩) 2 2] (by simp [Act.eval]) ?_
 refine (hja).mono ?_
 rintro e w4 ⟨rfl, vp, vf, cs, h1, h2, h3, h4, h5, h6⟩
 refine ⟨_, rfl, ?_⟩
 have HJ4 := Keep.mk h1
 have HP4 := Keep.mk h2
 obtain ⟨D1, hD1⟩ : ∃ D, Keep (D = DV.appNew ⟨[], 1000, 0, -1, false, 0⟩ 0 (nmS 0) (hl 16 (hdF [97, 98]) ++ [97, 98])) := ⟨_, ⟨rfl⟩⟩
 have HD4 : Keep (DskAt w4 ps vf cs D1) := ⟨by rw [hD1.out]; exact h3⟩
 have B4 : Keep (Below w.heap.size w w4) := ⟨B3.out.trans (h4.to_below (B := w.heap.size) (fun k hk e => by have := LB.out; have := LG.out; rcases e with e | e | e; omega; omega; cases e) B3.out.size)⟩
 have NV : Keep (∀ k, DskS ps vf cs k → w.heap.size ≤ k) := ⟨fun k hk => by rcases h5 k hk with h | h; rcases h with h | h | ⟨i, x, h, _⟩; have := LB.out; omega; cases h; cases h; have := B3.out.size; omega⟩
 have HK4 : Keep (Blk w4 pd 67 #[ptr ps]) := ⟨h4.blk HK3.out fun e => by rcases e with e | e | e; subst e; have := HK3.out.typ.one HD3.out.blk.typ; revert this; decide; subst e; have := HK3.out.typ.one HJ3.out.typ; revert this; decide; cases e⟩
 have HH4 : Keep (Blk w4 ph 73 #[ptr ps]) := ⟨h4.blk HH3.out fun e => by rcases e with e | e | e; subst e; have := HH3.out.typ.one HD3.out.blk.typ; revert this; decide; subst e; have := HH3.out.typ.one HJ3.out.typ; revert this; decide; cases e⟩
 have HT4 : Keep (Tab w4) := ⟨HT.out.below B4.out HZ.out⟩
 have HCl : Keep (cs.length = 1) := ⟨by have h := h3.fcs.len; exact h⟩
 have HFs : Keep (D1.fs = [⟨nmS 0, (hl 16 (hdF [97, 98]) ++ [97, 98]), 0⟩] ∧ D1.out = false ∧ D1.fuse = -1 ∧ D1.acts = 1) := ⟨by rw [hD1.out]; exact ⟨rfl, rfl, rfl, rfl⟩⟩
 clear h1 h2 h3 h4 h5 h6 hja HJ3 HD3 HK3 HH3 HT3 HR3
 simp only [Act.put, pqA, pqB, pqC]
 refine VbF ?_
 refine VbF ?_
 refine VbF ?_
 refine VlS (.pointer (some ⟨g, 0, none⟩)) ?_
 have hjs := jsync_ok g pd ps 0 0 (by omega) vf vp cs D1 (16 + (([97, 98] : List Int).length : Int)) w4 HT4.out HJ4.out HK4.out HD4.out HFs.out.2.1 (by rw [HFs.out.1]; exact fnd_one _ _) (by rw [HCl.out]; decide) (by rw [HFs.out.2.2.2]; decide) (by rw [HFs.out.2.2.1]; decide)
 refine WL.callF (by kernel_rfl) 19 _ _ rfl Tryz.in19 #[ptr g] (by simp [Act.eval]) ?_
 refine (hjs).mono ?_
 rintro e w5 ⟨rfl, cs2, h1, h2, h3, h4⟩
 refine ⟨_, rfl, ?_⟩
 have HJ5 := Keep.mk h1
 have HD5 := Keep.mk h2
 have B5 : Keep (Below w.heap.size w w5) := ⟨B4.out.trans (h3.to_below (B := w.heap.size) (fun k hk e => by have := LB.out; have := LG.out; rcases e with e | e | e; omega; omega; have := NV.out k (.inr (.inl e)); omega) B4.out.size)⟩
 have HH5 : Keep (Blk w5 ph 73 #[ptr ps]) := ⟨h3.blk HH4.out fun e => by rcases e with e | e | e; subst e; have := HH4.out.typ.one HJ4.out.typ; revert this; decide; subst e; have := HH4.out.typ.one HD4.out.blk.typ; revert this; decide; have := HH4.out.typ.one (HD4.out.own.typ e); revert this; decide⟩
 clear h1 h2 h3 h4 hjs HD4 HK4 HH4 HT4
 obtain ⟨va, vc, hvp⟩ := HP4.out.sl
 have hvp : vp = .slice va 1 vc := hvp
 subst hvp
 have c4 := HJ5.out.c 4 (by rfl : (jA pd (.slice va 1 vc) ((0 : Nat) : Int) (16 + (([97, 98] : List Int).length : Int)) false false)[4]? = some (.bool false))
 have c5 := HJ5.out.c 5 (by rfl : (jA pd (.slice va 1 vc) ((0 : Nat) : Int) (16 + (([97, 98] : List Int).length : Int)) false false)[5]? = some (.bool false))
 have c1 := HJ5.out.c 1 (by rfl : (jA pd (.slice va 1 vc) ((0 : Nat) : Int) (16 + (([97, 98] : List Int).length : Int)) false false)[1]? = some (.slice va 1 vc))
 have C4 := Keep.mk c4
 have C5 := Keep.mk c5
 have C1 := Keep.mk c1
 clear c4 c5 c1
 simp only [Act.put, pqA, pqB, pqC]
 refine VbF ?_
 refine VbF ?_
 refine VbF ?_
 refine VlS (.pointer (some ⟨g, 0, none⟩)) ?_
 refine WL.callF (by kernel_rfl) 19 _ _ rfl Tryz.in19 #[ptr g] (by simp [Act.eval]) ?_
 refine (jsync_idle g w5 C5.out C4.out).mono ?_
 rintro e wy ⟨rfl, hy⟩
 refine ⟨_, rfl, ?_⟩
 subst hy
 simp only [Act.put, pqA, pqB, pqC]
 refine VbF ?_
 refine VbF ?_
 refine VbF ?_
 refine VlS (.pointer (some ⟨g, 0, none⟩)) ?_
 refine WL.callF (by kernel_rfl) 20 _ _ rfl Tryz.in20 #[ptr g] (by simp [Act.eval]) ?_
 refine (len_any g va 1 vc wy C1.out).mono ?_
 rintro e wx ⟨rfl, hx⟩
 refine ⟨_, rfl, ?_⟩
 subst hx
 simp only [Act.put, pqA, pqB, pqC]
 refine VbF ?_
 refine VbF ?_
 refine VbF ?_
 refine VlS (.pointer (some ⟨ph, 0, none⟩)) ?_
 refine WL.callF (by kernel_rfl) 16 _ _ rfl Tryz.in16 #[ptr ph] (by simp [Act.eval]) ?_
 refine (acts_any ph ps 2 wx (HH5.out.c 0 rfl) (HD5.out.blk.c 5 (by show some (Value.int .i64 (D1.acts + 1)) = _; rw [HFs.out.2.2.2]; rfl))).mono ?_
 rintro e wu ⟨rfl, hu⟩
 refine ⟨_, rfl, ?_⟩
 subst hu
 simp only [Act.put, pqA, pqB, pqC]
 refine VbF ?_
 refine VbF ?_
 refine WL.nil (hK5 _ _ ?_)
 refine wp_cond_false rfl ?_
 refine wp_skip ?_
 refine hK4 _ _ ?_
 refine wp_seq_k fun K6 hK6 => rgn ?_
 refine VlS (.pointer (some ⟨ph, 0, none⟩)) ?_
 have hfs : (D1.act.sync 0).fs = [⟨nmS 0, (hl 16 (hdF [97, 98]) ++ [97, 98]), ((hl 16 (hdF [97, 98]) ++ [97, 98]).length : Int)⟩] := by show D1.fs.modify 0 PF.sync = _; rw [HFs.out.1]; rfl
 have hfi := files_any ph ps vf cs2 (D1.act.sync 0) wu HH5.out HD5.out (by have h := HD5.out.fcs.len; rw [hfs] at h; simp at h; omega) (by rw [hfs]; intro f hf; simp at hf; subst hf; simp [hl_len])
 refine WL.callF (by kernel_rfl) 13 _ _ rfl Tryz.in13 #[ptr ph] (by simp [Act.eval]) ?_
 refine (hfi).mono ?_
 rintro e w7 ⟨v7, ct, rfl, h1, h2, h3, h4, h5⟩
 refine ⟨_, rfl, ?_⟩
 have B7 : Keep (Below w.heap.size w w7) := ⟨B5.out.trans (h5.mono B5.out.size)⟩
 rw [hfs] at h2
 have hcl : ct.length = 1 := h2.len
 obtain ⟨x, hx⟩ : ∃ x, ct = [x] := by rcases ct with _ | ⟨x, _ | ⟨y, r⟩⟩ <;> simp at hcl; exact ⟨x, rfl⟩
 subst hx
 have hxf := h2.each 0 x _ rfl rfl
 obtain ⟨va7, vc7, e7⟩ := h1.sl
 have e7 : v7 = .slice va7 1 vc7 := e7
 subst e7
 obtain ⟨gv, ea, hrg⟩ := h1.at (t := 0) (c := x) rfl
 subst ea
 obtain ⟨xn, xb, xs⟩ := x
 obtain ⟨hx1, hx2, hx3⟩ := hxf
 change xn = nmS 0 at hx1
 change xs = _ at hx2
 rw [nmS_0] at hx1
 have hx2 : xs = 18 := by rw [hx2]; simp [hl_len]
 subst hx1 hx2
 have hrw := hx3.row
 rw [ab_frame] at hrw
 obtain ⟨xa, xc, exb⟩ := row_form hrw
 have exb : xb = .slice xa 18 xc := exb
 subst exb
 have q0 : w7.cell? ⟨gv, 0, none⟩ = some (.string ⟨#[106, 48, 48, 48, 48]⟩) := hrg 0 _ rfl
 have q1 : w7.cell? ⟨gv, 1, none⟩ = some (.slice xa 18 xc) := hrg 1 _ rfl
 have q2 : w7.cell? ⟨gv, 2, none⟩ = some (.int .i64 18) := hrg 2 _ rfl
 have hcv := conv_row _ _ w7 hrw
 rw [ab_str] at hcv
 clear h1 h2 h3 h4 h5 hfi hfs hrg hx3 hrw hcl
 simp only [Act.put, pqA, pqB, pqC]
 refine VlS (.slice (some ⟨gv, 0, none⟩) 1 vc7) ?_
 refine WL.nil (hK6 _ _ ?_)
 refine wp_seq_k fun K7 hK7 => rgn ?_
 refine VlS (.slice (some ⟨gv, 0, none⟩) 1 vc7) ?_
 refine VlS (.int .i64 1) ?_
 refine VbT ?_
 refine VbT ?_
 refine VlS (.slice (some ⟨gv, 0, none⟩) 1 vc7) ?_
 refine VlS (.pointer (some ⟨gv, 0, none⟩)) ?_
 refine VlS (.pointer (some ⟨gv, 0, none⟩)) ?_
 refine VlS (.string ⟨#[106, 48, 48, 48, 48]⟩) ?_
 refine VbT ?_
 refine VbT ?_
 refine VbT ?_
 refine VlS (.slice (some ⟨gv, 0, none⟩) 1 vc7) ?_
 refine VlS (.pointer (some ⟨gv, 0, none⟩)) ?_
 refine VlS (.pointer (some ⟨gv, 2, none⟩)) ?_
 refine VlS (.int .i64 18) ?_
 refine VbT ?_
 refine VbT ?_
 refine VbT ?_
 refine VlS (.slice (some ⟨gv, 0, none⟩) 1 vc7) ?_
 refine VlS (.pointer (some ⟨gv, 0, none⟩)) ?_
 refine VlS (.pointer (some ⟨gv, 1, none⟩)) ?_
 refine VlS (.slice xa 18 xc) ?_
 refine VlS (.string ⟨#[2, 0, 0, 0, 253, 255, 255, 255, 251, 142, 32, 252, 46, 76, 63, 36, 97, 98]⟩) ?_
 refine VbT ?_
 refine VbT ?_
 refine VbT ?_
 refine WL.nil (hK7 _ _ ?_)
 refine wp_ret ?_
 go_ret
 exact ⟨rfl, B7.out⟩
def zeroO : OX := ⟨0, 0, 0, ⟨#[]⟩, .slice none 0 0, .slice none 0 0⟩
theorem Tryz.newO (w : World) : (Instr.alloc 43 true (.tuple #[])).run Tryz.prog w = .ok (.pointer (some ⟨w.heap.size, 0, none⟩)) (w.alloc (.cells (opA zeroO) 43)) := by kernel_rfl
theorem Tryz.sizeO : (Tryz.prog.info? 43).map (·.size) = some 6 := by kernel_rfl
theorem Tryz.sizeOB (x : OX) : (Tryz.prog.info? 43).map (·.size) = some (opA x).size := Tryz.sizeO
theorem Tryz.sizeOL (x : OX) : (Tryz.prog.info? 43).map (·.size) = some (opA x).toList.length := Tryz.sizeO
theorem opA_back (x : OX) : (opA x).toList.toArray = opA x := Array.toArray_toList
theorem IntsAt.lt' {w : World} {v : Value} {l : List Int} (h : IntsAt w v l) (hn : l ≠ []) : ∀ k, v.ownBlock = some k → k < w.heap.size := by
 rcases h with ⟨_, _, _, e⟩ | ⟨q, o, c, rfl, hc⟩
 ·exact absurd e hn
 ·intro k hk
  have e : q = k := Option.some.inj hk
  subst e
  exact cell_lt (hc 0 (List.length_pos_iff.2 hn))
theorem WL.appGs {ops : Array Oper} {rest : List Oper} {o : Oper} {a : Act} {w : World} {Q : Exit → Act → World → Prop} (hw : Region.wanted o (yielded ops a.tmps) = true) (s x : Operand)
  (ho : o.op = .call { callee := .builtin .append, args := #[s, x], argTypes := #[39, 39] }) (v : Value) (B n : Nat) (xs : List Value) (gx d : Nat)
  (hs : a.eval s = v) (hx : a.eval x = .slice (some ⟨gx, 0, none⟩) 1 1) (hown : w.ownsRow B 26 1 v n xs) (hc : w.cell? ⟨gx, 0, none⟩ = some (ptr d)) (hb : n + 1 ≤ 17592186044416) (hB : B ≤ w.heap.size)
  (h : ∀ v' w', w'.ownsRow B 26 1 v' (n + 1) (xs ++ [ptr d]) → (Grown w w' fun k => v.ownBlock = some k) → (v'.ownBlock = v.ownBlock ∨ v'.ownBlock = some w.heap.size) → WL Tryz.prog ops Q rest (a.put o.dst v') w') : WL Tryz.prog ops Q (o :: rest) a w :=
 ⟨wpList_wanted hw fun K hK => by
  obtain ⟨v', w', hr, h1, h2, h3⟩ := run_appQ 39 26 Tryz.underlying39 infoGp w o.type B v n xs hown gx d hc hb hB
  unfold Oper.wp execOp
  simp only [ho, resolve, invoke, builtin, Sem.run_bind, Sem.run_pure, Result.andThen_ok, List.map_toArray, List.map_cons, List.map_nil, hs, hx, hr]
  exact hK _ _ (h v' w' h1 h2 h3).out⟩
def nwD (r : Int) : DV := ⟨[⟨⟨#[97]⟩, [], 0⟩], max 0 r, 0, -1, false, 1⟩
theorem new_ok (r : Int) (hr : r ≤ 9223372036854775807) : DOk (⟨[], max 0 r, 0, -1, false, 0⟩ : DV) 0 0 := ⟨⟨List.Pairwise.nil, Nat.zero_le _, (fun f h => by simp at h), fun f h => by simp at h⟩, (fun f h => by simp at h), rfl, (by simp [usd]), (by simp [usd]; omega), (by show (-1 : Int) ≤ -1 ∧ (-1 : Int) ≤ 9223372036854775807; omega), by simp⟩
theorem rgt_a : rgt ⟨#[97]⟩ = true := by decide +kernel
theorem new_apC (r : Int) : apC (⟨[], max 0 r, 0, -1, false, 0⟩ : DV) ⟨#[97]⟩ [] = 0 := by
 unfold apC
 rw [if_neg (by simp), if_neg (by rw [rgt_a]; simp), if_neg (by simp), if_neg (by simp [usd]; omega)]
 rfl
theorem new_apD (r : Int) : apD (⟨[], max 0 r, 0, -1, false, 0⟩ : DV) ⟨#[97]⟩ [] = nwD r := by
 unfold apD
 rw [if_neg (by simp), if_neg (by rw [rgt_a]; simp), if_neg (by simp), if_neg (by simp [usd]; omega)]
 rfl
theorem OwnQ.typ {w : World} {B n : Nat} {v : Value} {xs : List Value} (h : w.ownsRow B 26 1 v n xs) {k : Nat} (hk : v.ownBlock = some k) : Typ w k 26 := by
 rcases h.2 with ⟨rfl, _⟩ | ⟨g, cap, cur, rfl, _, h3, _⟩
 ·cases hk
 ·have e : g = k := Option.some.inj hk
  subst e
  exact ⟨cur, _, h3⟩
set_option maxRecDepth 8000 in
set_option maxHeartbeats 16000000 in
theorem disk_any (vf vo : Value) (r : Int) (ks : List PF) (os : List PO) (w : World) (hT : Tab w) (hZ : 0 < w.heap.size) (hX : FilesAt w vf ks) (hS : OpsAt w vo os) (hr : r ≤ 9223372036854775807) (hLk : ks.length ≤ 1000000000000000) (hLo : os.length ≤ 1000000000000000) (hBk : ∀ f ∈ ks, f.bs.length ≤ 200000000000000) (hBo : ∀ x ∈ os, x.l.length ≤ 200000000000000) (hNk : ∀ f ∈ ks, f.nm.size ≤ 1000000000000000) (hNo : ∀ x ∈ os, x.nm.size ≤ 1000000000000000) (hYk : ∀ f ∈ ks, Byts f.bs) (hYo : ∀ x ∈ os, Byts x.l) (hIo : ∀ x ∈ os, x.n ≤ 9223372036854775807) :
  Calls Tryz.prog 3 #[vf, .int .i64 r, vo] w fun e w' => e = .returned (.bool true) ∧ Below w.heap.size w w' := by
 obtain ⟨fa, fc, rfl⟩ := hX.form
 obtain ⟨pa, pc, rfl⟩ := hS.form
 have HT := Keep.mk hT
 have HZ := Keep.mk hZ
 have HX := Keep.mk hX
 have HS := Keep.mk hS
 have Hr := Keep.mk hr
 have HLk := Keep.mk hLk
 have HLo := Keep.mk hLo
 have HBk := Keep.mk hBk
 have HBo := Keep.mk hBo
 have HNk := Keep.mk hNk
 have HNo := Keep.mk hNo
 have HYk := Keep.mk hYk
 have HYo := Keep.mk hYo
 have HIo := Keep.mk hIo
 clear hT hZ hX hS hr hLk hLo hBk hBo hNk hNo hYk hYo hIo
 go_enter Tryz.func3, Tryz.ntmps3
 refine wp_seq_k fun K1 hK1 => rgn ?_
 refine VbF ?_
 refine WL.nil (hK1 _ _ ?_)
 refine wp_seq_k fun K2 hK2 => ?_
 refine wp_seq_k fun K3 hK3 => rgn ?_
 refine WL.callF (by kernel_rfl) 4 _ _ rfl Tryz.in4 #[] (by simp) ?_
 refine (awake_any w HT.out HZ.out).mono ?_
 rintro e w1 ⟨rfl, hb1⟩
 refine ⟨_, rfl, ?_⟩
 have B1 := Keep.mk hb1
 clear hb1
 simp only [Act.put, pqA, pqB, pqC]
 refine VbF ?_
 refine WL.nil (hK3 _ _ ?_)
 refine wp_cond_false rfl ?_
 refine wp_skip ?_
 refine hK2 _ _ ?_
 refine wp_seq_k fun K4 hK4 => ?_
 refine wp_seq_k fun K5 hK5 => rgn ?_
 refine VlS (.slice fa ks.length fc) ?_
 refine VlS (.slice pa os.length pc) ?_
 refine WL.callF (by kernel_rfl) 5 _ _ rfl Tryz.in5 #[.slice fa ks.length fc, .slice pa os.length pc] (by simp [Act.eval]) ?_
 refine (beyond_any _ _ ks os w1 (HX.out.below B1.out) (HS.out.below B1.out) HLk.out HLo.out HBk.out HBo.out).mono ?_
 rintro e w2 ⟨b, rfl, hbe, hw_⟩
 refine ⟨_, rfl, ?_⟩
 have hw_ := hw_.symm
 subst hw_
 have HBe := Keep.mk hbe
 clear hbe
 simp only [Act.put, pqA, pqB, pqC]
 refine WL.nil (hK5 _ _ ?_)
 cases b
 ·have HTot := Keep.mk (HBe.out rfl)
  clear HBe
  refine wp_cond_false rfl ?_
  refine wp_skip ?_
  refine hK4 _ _ ?_
  refine wp_seq_k fun K6 hK6 => rgn ?_
  refine VlS (.int .i64 r) ?_
  refine VlS (.slice fa ks.length fc) ?_
  refine WL.callF (by kernel_rfl) 6 _ _ rfl Tryz.in6 #[.int .i64 r, .slice fa ks.length fc] (by simp [Act.eval]) ?_
  refine (rlay_any r _ ks w1 (HX.out.below B1.out) (by have := HTot.out; have := usd_nonneg ks; have := opb_nonneg os; omega) (by have := HTot.out; have := usd_nonneg ks; have := opb_nonneg os; omega) HNk.out).mono ?_
  rintro e w2 ⟨x, vr, cr, rfl, k1, k2, k3, k4⟩
  refine ⟨_, rfl, ?_⟩
  have R2 := Keep.mk k1
  have LR2 := Keep.mk k3
  have B2 : Keep (Below w.heap.size w w2) := ⟨B1.out.trans (k4.mono B1.out.size)⟩
  have S12 : Keep (w1.heap.size ≤ w2.heap.size) := ⟨k4.size⟩
  clear k1 k2 k3 k4
  simp only [Act.put, pqA, pqB, pqC]
  refine WL.bld (by kernel_rfl) 35 _ rfl [(2, .pointer (some ⟨x, 0, none⟩))] (by simp [Act.eval]) _ (g_built x) ?_
  simp only [Act.put, pqA, pqB, pqC]
  refine WL.box (by kernel_rfl) 35 (.tmp 29) rfl (gz x) rfl ?_
  have C3 := Keep.mk (Blk.new w2 35 (gz x))
  have b3 := Keep.mk (below_new w2 (.cells (gz x) 35))
  change WL _ _ _ _ _ (w2.alloc (.cells (gz x) 35))
  generalize w2.alloc (.cells (gz x) 35) = w3 at *
  obtain ⟨c, hc⟩ : ∃ z, Keep (z = w2.heap.size) := ⟨_, ⟨rfl⟩⟩
  rw [← hc.out] at C3 ⊢
  have R3 := Keep.mk (R2.out.below b3.out)
  have B3 : Keep (Below w.heap.size w w3) := ⟨B2.out.trans (b3.out.mono B2.out.size)⟩
  have Lc : Keep (w2.heap.size = c ∧ c < w3.heap.size) := ⟨hc.out.symm, C3.out.lt⟩
  clear hc b3
  simp only [Act.put, pqA, pqB, pqC]
  refine VlS (.pointer (some ⟨c, 0, none⟩)) ?_
  refine WL.nil (hK6 _ _ ?_)
  refine wp_seq_k fun K7 hK7 => rgn ?_
  refine VlS (.pointer (some ⟨c, 0, none⟩)) ?_
  refine VlS (.pointer (some ⟨c, 0, none⟩)) ?_
  refine VlS (.int .i64 r) ?_
  refine VlS (.slice fa ks.length fc) ?_
  refine WL.callF (by kernel_rfl) 8 _ _ rfl Tryz.in8 #[.slice fa ks.length fc] (by simp [Act.eval]) ?_
  refine (copyFiles_any _ ks w3 (HX.out.below B3.out) (by have := HTot.out; have := usd_nonneg ks; have := opb_nonneg os; omega) (fun f hf => by have h := usd_mem_le hf; have := HTot.out; have := opb_nonneg os; omega)).mono ?_
  rintro e w4 ⟨v4, ct4, rfl, k1, k2, k3, k4, k5⟩
  refine ⟨_, rfl, ?_⟩
  have F4 : Keep (FilesAt w4 v4 ks) := ⟨files_of k1 k2⟩
  have R4 := Keep.mk (R3.out.below k5)
  have C4 := Keep.mk (C3.out.below k5 C3.out.lt)
  have B4 : Keep (Below w.heap.size w w4) := ⟨B3.out.trans (k5.mono B3.out.size)⟩
  have S4 : Keep (w3.heap.size ≤ w4.heap.size) := ⟨k5.size⟩
  clear k1 k2 k3 k4 k5 R3 C3
  simp only [Act.put, pqA, pqB, pqC]
  refine WL.callF (by kernel_rfl) 7 _ _ rfl Tryz.in7 #[.int .i64 r, v4] (by simp [Act.eval]) ?_
  refine (dlay_any r v4 ks w4 F4.out (by have := HTot.out; have := usd_nonneg ks; have := opb_nonneg os; omega) (by have := HTot.out; have := usd_nonneg ks; have := opb_nonneg os; omega)).mono ?_
  rintro e w5 ⟨ps, pd, ph, vf, cs, rfl, k1, k2, k3, k4, k5, k6⟩
  refine ⟨_, rfl, ?_⟩
  have D5 := Keep.mk k1
  have P5 := Keep.mk k2
  have Q5 := Keep.mk k3
  have L5 := Keep.mk k4
  have LD5 := Keep.mk k5
  have R5 := Keep.mk (R4.out.below k6)
  have C5 := Keep.mk (C4.out.below k6 C4.out.lt)
  have B5 : Keep (Below w.heap.size w w5) := ⟨B4.out.trans (k6.mono B4.out.size)⟩
  clear k1 k2 k3 k4 k5 k6 R4 C4
  have cl := C5.out.c 0 (by rfl : (gz x)[0]? = some (.pointer none))
  have f_o := C5.out.frozen 0
  simp only [Act.put, pqA, pqB, pqC]
  refine VlS (.tuple #[.pointer (some ⟨pd, 0, none⟩), .pointer (some ⟨ph, 0, none⟩)]) ?_
  refine VlS (.pointer (some ⟨pd, 0, none⟩)) ?_
  refine VlS (.pointer (some ⟨ph, 0, none⟩)) ?_
  refine VlS (.pointer (some ⟨c, 0, none⟩)) ?_
  refine VlS (.pointer (some ⟨c, 0, none⟩)) ?_
  refine WL.cell (by kernel_rfl) (w5.setCell ⟨c, 0, none⟩ (ptr pd)) (by go_simp) ?_
  have C6 := Keep.mk (C5.out.set 0 (ptr pd))
  have g6 : Keep (Grown w5 (w5.setCell ⟨c, 0, none⟩ (ptr pd)) fun k => k = c) := ⟨Grown.setCell w5 c 0 _ fun _ => rfl⟩
  clear cl f_o
  generalize (w5.setCell ⟨c, 0, none⟩ (ptr pd)) = w6 at *
  have cl := C6.out.c 1 (by rfl : ((gz x).setIfInBounds 0 (ptr pd))[1]? = some (.pointer none))
  have f_o := C6.out.frozen 1
  simp only [Act.put]
  refine VlS (.pointer (some ⟨c, 0, none⟩)) ?_
  refine VlS (.pointer (some ⟨c, 1, none⟩)) ?_
  refine WL.cell (by kernel_rfl) (w6.setCell ⟨c, 1, none⟩ (ptr ph)) (by go_simp) ?_
  have C7 : Keep (Blk (w6.setCell ⟨c, 1, none⟩ (ptr ph)) c 35 (kxG pd ph x (.slice none 0 0) (.slice none 0 0) 0)) := ⟨C6.out.set 1 (ptr ph)⟩
  have g7 : Keep (Grown w5 (w6.setCell ⟨c, 1, none⟩ (ptr ph)) fun k => k = c) := ⟨g6.out.trans (Grown.setCell w6 c 1 _ fun _ => rfl)⟩
  clear cl f_o g6 C6
  generalize (w6.setCell ⟨c, 1, none⟩ (ptr ph)) = w7 at *
  have ncP : ∀ k, DskS ps vf cs k → k ≠ c := fun k hk e => by have h1 := LD5.out k hk; have := S4.out; have := Lc.out; omega
  have ncR : ∀ k, RdS x vr (.slice none 0 0) cr k → k ≠ c := fun k hk e => by have h1 := R2.out.sLt hk; have := Lc.out; omega
  have ncd : pd ≠ c := fun e => by have := L5.out; have := S4.out; have := Lc.out; omega
  have nch : ph ≠ c := fun e => by have := L5.out; have := S4.out; have := Lc.out; omega
  have G7 : Keep (GvAt w7 (⟨c, pd, ph, ps, x, vf, vr, .slice none 0 0, cs, cr, [], fun _ => False⟩ : GV) (layD r ks) (layD r ks)) := ⟨GvAt.fresh C7.out (g7.out.blk P5.out ncd) (g7.out.blk Q5.out nch) (D5.out.gr g7.out ncP) (R5.out.grown g7.out ncR) fun k h1 h2 => by have e1 := LD5.out k h1; have e2 := R2.out.sLt h2; have := S4.out; have := Lc.out; omega⟩
  have LU : Keep (∀ k, (GV.U (⟨c, pd, ph, ps, x, vf, vr, .slice none 0 0, cs, cr, [], fun _ => False⟩ : GV)) k → w.heap.size ≤ k) := ⟨fun k hk => by
   have s1 := B1.out.size
   have s2 := B2.out.size
   have s3 := B3.out.size
   have s4 := B4.out.size
   rcases hk with e | e | e | hk | hk | hk
   ·have e : k = c := e; have := Lc.out; omega
   ·have e : k = pd := e; have := L5.out; omega
   ·have e : k = ph := e; have := L5.out; omega
   ·have := LD5.out k hk; omega
   ·have := LR2.out k hk; omega
   ·exact hk.elim⟩
  have B7 : Keep (Below w.heap.size w w7) := ⟨B5.out.trans (g7.out.to_below (fun k hk e => by have := Lc.out; have := B2.out.size; omega) B5.out.size)⟩
  clear ncP ncR ncd nch g7 C7 D5 P5 Q5 R5 LD5 LR2 L5
  simp only [Act.put]
  refine WL.nil (hK7 _ _ ?_)
  refine wp_seq_k fun K8 hK8 => rgn ?_
  refine WL.bs (by kernel_rfl) 39 0 _ rfl #[] (by simp) _ _ (bsG0 w7) ?_
  have O8 := Keep.mk (owns_new w7 26 w.heap.size B7.out.size)
  have hz := below_new w7 (.cells #[] 26)
  have B8 : Keep (Below w.heap.size w (w7.alloc (.cells #[] 26))) := ⟨B7.out.trans (hz.mono B7.out.size)⟩
  have M8 : Keep (MG w.heap.size (w7.alloc (.cells #[] 26)) (.slice (some ⟨w7.heap.size, 0, none⟩) 0 0) [] (⟨c, pd, ph, ps, x, vf, vr, .slice none 0 0, cs, cr, [], fun _ => False⟩ : GV) (layD r ks) (usd ks) 0) := ⟨⟨G7.out.below hz, DOk.lays r Hr.out ks HYk.out (by have := HTot.out; have := usd_nonneg ks; have := opb_nonneg os; omega), LU.out, (fun P hP => by simp at hP), O8.out, fun k hk => ⟨fun e => by have e2 : w7.heap.size = k := Option.some.inj hk; have := G7.out.uLt e; omega, fun P hP => by simp at hP⟩⟩⟩
  clear hz O8 G7 LU B7
  generalize w7.alloc (.cells #[] 26) = w8 at *
  obtain ⟨g8, hg8⟩ : ∃ z, Keep (z = w7.heap.size) := ⟨_, ⟨rfl⟩⟩
  rw [← hg8.out] at M8 ⊢
  clear hg8
  simp only [Act.put, pqA, pqB, pqC]
  refine VlS (.slice (some ⟨g8, 0, none⟩) 0 0) ?_
  refine WL.nil (hK8 _ _ ?_)
  refine wp_seq_k fun K9 hK9 => ?_
  refine wp_seq_k fun K10 hK10 => rgn ?_
  refine VlS (.slice pa os.length pc) ?_
  refine VlS (.int .i64 (os.length : Int)) ?_
  refine VlS (.int .i64 0) ?_
  refine WL.nil (hK10 _ _ ?_)
  refine wp_block ?_
  refine wp_loop (fun ac wr => ∃ (t : Nat) (G : GV) (D : DV) (Os : List (GV × DV)) (vo : Value), ac = apF (fun fz => { tmps := #[.slice fa ks.length fc, .int .i64 r, .slice pa os.length pc, undef, undef, undef, fz 6, .pointer (some ⟨G.g, 0, none⟩), vo, undef, fz 10, fz 11, fz 12, undef, fz 14, fz 15, undef, undef, undef, undef, undef, .bool true, .bool false, .slice fa ks.length fc, .slice pa os.length pc, .bool false, .int .i64 r, .slice fa ks.length fc, .pointer (some ⟨x, 0, none⟩), .agg (gz x), .pointer (some ⟨c, 0, none⟩), .tuple #[.pointer (some ⟨pd, 0, none⟩), .pointer (some ⟨ph, 0, none⟩)], .pointer (some ⟨c, 0, none⟩), .pointer (some ⟨c, 0, none⟩), .int .i64 r, .slice fa ks.length fc, v4, .tuple #[.pointer (some ⟨pd, 0, none⟩), .pointer (some ⟨ph, 0, none⟩)], .pointer (some ⟨pd, 0, none⟩), .pointer (some ⟨ph, 0, none⟩), .pointer (some ⟨c, 0, none⟩), .pointer (some ⟨c, 0, none⟩), .pointer (some ⟨c, 0, none⟩), .pointer (some ⟨c, 1, none⟩), .slice (some ⟨g8, 0, none⟩) 0 0, .slice pa os.length pc, .int .i64 (os.length : Int), .int .i64 (t : Int), fz 48, fz 49, fz 50, fz 51, fz 52, fz 53, fz 54, fz 55, fz 56, fz 57, fz 58, fz 59, fz 60, fz 61, fz 62, fz 63, fz 64, fz 65, fz 66, fz 67, fz 68, fz 69, fz 70, fz 71, fz 72, fz 73, fz 74, fz 75, fz 76, fz 77, fz 78, fz 79, fz 80, fz 81, fz 82, fz 83, fz 84, fz 85, fz 86, fz 87, fz 88, fz 89, fz 90, fz 91, fz 92, fz 93, fz 94, fz 95, fz 96, fz 97, fz 98, fz 99, fz 100, fz 101, fz 102, fz 103, fz 104, fz 105, fz 106, fz 107, fz 108, fz 109, fz 110, fz 111, fz 112, fz 113, fz 114, fz 115, undef, undef, undef, undef, undef, undef, undef, undef, undef, undef, undef, undef, undef, undef, undef, undef, undef, undef, undef, undef, undef, undef, undef, undef, undef, undef, undef, undef, undef, undef], defers := [] }) ac ∧ t ≤ os.length ∧ MG w.heap.size wr vo Os G D (usd ks + opb (os.take t)) (t : Int) ∧ Os.length ≤ t ∧ Below w.heap.size w wr) (fun a _ => os.length - (intOf (a.tmps.getD 47 undef)).toNat) ⟨0, (⟨c, pd, ph, ps, x, vf, vr, .slice none 0 0, cs, cr, [], fun _ => False⟩ : GV), layD r ks, [], _, rfl, Nat.zero_le _, by have h := M8.out; simp only [List.take_zero, opb, List.map_nil, List.sum_nil, Int.add_zero]; exact h, Nat.le_refl _, B8.out⟩ ?_
  clear M8 B8 B1 B2 B3 B4 B5 R2 S12 S4 Lc F4
  rintro ac wr ⟨t, G, D, Os, vo, hac, ht, hJ1, hJ2, hJ3⟩
  obtain ⟨fz, rfl⟩ := unF hac
  have JM := Keep.mk hJ1
  have JO := Keep.mk hJ2
  have JB := Keep.mk hJ3
  clear hJ1 hJ2 hJ3
  by_cases hlt : t < os.length
  ·have hlt' : (t : Int) < (os.length : Int) := by omega
   have hwt : IntKind.i64.wrap ((t : Int) + 1) = (t : Int) + 1 := by rw [IntKind.wrap_i64]; have := HLo.out; omega
   obtain ⟨x_, hx⟩ : ∃ x, os[t]? = some x := ⟨os[t], List.getElem?_eq_getElem hlt⟩
   obtain ⟨q, ko, y, hq, hrg0, hy1, hy2, hy3, hy4, hy5, hy6⟩ := HS.out.at hx
   subst hq
   have hrg : wr.rangeAt q (ko + t * 6) (opA y).toList := fun j u hu => by rw [JB.out.cell (p := ⟨q, ko + t * 6 + j, none⟩) (cell_lt (hrg0 j u hu))]; exact hrg0 j u hu
   clear hrg0
   obtain ⟨kd, oa, on, nm, yb, yp⟩ := y
   obtain ⟨ba, bc, hxb⟩ := row_form hy5
   change yb = _ at hxb
   subst hxb
   obtain ⟨ka, kc, hxk⟩ := hy6.form
   change yp = _ at hxk
   subst hxk
   have Hx := Keep.mk hx
   have HRg := Keep.mk hrg
   have HRw := Keep.mk hy5
   have HKw := Keep.mk hy6
   have hmem := List.mem_of_getElem? hx
   have HNm : Keep (nm.size ≤ 1000000000000000) := ⟨by have h : nm = x_.nm := hy4; rw [h]; exact HNo.out x_ hmem⟩
   have HOn : Keep (on ≤ 9223372036854775807) := ⟨by have h : on = x_.n := hy3; rw [h]; exact HIo.out x_ hmem⟩
   have HYx := Keep.mk (HYo.out x_ hmem)
   have HUt : Keep ((usd ks + opb (os.take t)) + (x_.l.length : Int) ≤ 1000000000000 ∧ (t : Int) + 1 ≤ 100000000000 ∧ 0 ≤ (usd ks + opb (os.take t))) := ⟨by
    have h1 := opb_step hx
    have h2 := opb_take os (t + 1)
    have h3 := opb_nonneg (os.take t)
    have h4 := HTot.out
    have h5 := usd_nonneg ks
    have h6 := opb_nonneg os
    omega⟩
   clear hx hrg hy1 hy2 hy3 hy4 hy5 hy6 hmem
   refine wp_seq_k fun K11 hK11 => rgn ?_
   refine VbT ?_
   refine WL.nil (hK11 _ _ ?_)
   refine wp_seq_k fun K12 hK12 => ?_
   refine wp_cond_true rfl ?_
   refine wp_skip ?_
   refine hK12 _ _ ?_
   refine wp_seq_k fun K13 hK13 => ?_
   refine wp_block ?_
   refine wp_seq_k fun K14 hK14 => rgn ?_
   refine VlS (.pointer (some ⟨q, ko + t * 6, none⟩)) ?_
   refine WL.mid (by kernel_rfl) 43 (.tmp 49) rfl q (ko + t * 6) rfl (opA (⟨kd, oa, on, nm, .slice ba x_.l.length bc, .slice ka x_.kp.length kc⟩ : OX)).toList _ HRg.out Tryz.underlying43 rfl (Tryz.sizeOL (⟨kd, oa, on, nm, .slice ba x_.l.length bc, .slice ka x_.kp.length kc⟩ : OX)) ?_
   rw [opA_back]
   simp only [Act.put, pqA, pqB, pqC]
   refine WL.new (by kernel_rfl) 43 rfl _ Tryz.newO ?_
   have HN := Keep.mk (Blk.new wr 43 (opA zeroO))
   have BN := Keep.mk (below_new wr (.cells (opA zeroO) 43))
   generalize wr.alloc (.cells (opA zeroO) 43) = wa at *
   obtain ⟨z0, hz0⟩ : ∃ z, Keep (z = wr.heap.size) := ⟨_, ⟨rfl⟩⟩
   rw [← hz0.out] at HN ⊢
   have L0 : Keep (wr.heap.size ≤ z0) := ⟨by rw [hz0.out]; exact Nat.le_refl _⟩
   simp only [Act.put, pqA, pqB, pqC]
   refine WL.storeR (by kernel_rfl) 43 (.tmp 10) (.tmp 50) rfl z0 (opA (⟨kd, oa, on, nm, .slice ba x_.l.length bc, .slice ka x_.kp.length kc⟩ : OX)) rfl rfl 43 (opA zeroO) HN.out (Tryz.sizeOB (⟨kd, oa, on, nm, .slice ba x_.l.length bc, .slice ka x_.kp.length kc⟩ : OX)) rfl (by simp [opA, Value.oneCell']) ?_
   have H1 := Keep.mk (HN.out.setRow (opA (⟨kd, oa, on, nm, .slice ba x_.l.length bc, .slice ka x_.kp.length kc⟩ : OX)))
   have b1 := Keep.mk (below_setRow BN.out (b := z0) L0.out (opA (⟨kd, oa, on, nm, .slice ba x_.l.length bc, .slice ka x_.kp.length kc⟩ : OX)))
   clear HN BN hz0 HRg
   generalize wa.setRow z0 (opA (⟨kd, oa, on, nm, .slice ba x_.l.length bc, .slice ka x_.kp.length kc⟩ : OX)) = w1 at *
   have M1 := Keep.mk (JM.out.below b1.out)
   have B1 : Keep (Below w.heap.size w w1) := ⟨JB.out.trans (b1.out.mono JB.out.size)⟩
   have z00 := H1.out.c 0 (by rfl : (opA (⟨kd, oa, on, nm, .slice ba x_.l.length bc, .slice ka x_.kp.length kc⟩ : OX))[0]? = some (.int .i64 kd))
   clear JM JB b1
   simp only [Act.put]
   refine WL.nil (hK14 _ _ ?_)
   refine wp_seq_k fun K15 hK15 => ?_
   refine wp_seq_k fun K16 hK16 => ?_
   have rest16 : ∀ (fy : Nat → Value) (G2 : GV) (Os2 : List (GV × DV)) (vo2 : Value) (wX : World), MG w.heap.size wX vo2 Os2 G2 D (usd ks + opb (os.take t)) (t : Int) → Os2.length ≤ t + 1 → Below w.heap.size w wX → Blk wX z0 43 (opA (⟨kd, oa, on, nm, .slice ba x_.l.length bc, .slice ka x_.kp.length kc⟩ : OX)) → K15 { tmps := #[.slice fa ks.length fc, .int .i64 r, .slice (some ⟨q, ko, none⟩) os.length pc, undef, undef, undef, fz 6, .pointer (some ⟨G2.g, 0, none⟩), vo2, undef, .pointer (some ⟨z0, 0, none⟩), fy 11, fz 12, undef, fz 14, fz 15, undef, undef, undef, undef, undef, .bool true, .bool false, .slice fa ks.length fc, .slice (some ⟨q, ko, none⟩) os.length pc, .bool false, .int .i64 r, .slice fa ks.length fc, .pointer (some ⟨x, 0, none⟩), .agg (gz x), .pointer (some ⟨c, 0, none⟩), .tuple #[.pointer (some ⟨pd, 0, none⟩), .pointer (some ⟨ph, 0, none⟩)], .pointer (some ⟨c, 0, none⟩), .pointer (some ⟨c, 0, none⟩), .int .i64 r, .slice fa ks.length fc, v4, .tuple #[.pointer (some ⟨pd, 0, none⟩), .pointer (some ⟨ph, 0, none⟩)], .pointer (some ⟨pd, 0, none⟩), .pointer (some ⟨ph, 0, none⟩), .pointer (some ⟨c, 0, none⟩), .pointer (some ⟨c, 0, none⟩), .pointer (some ⟨c, 0, none⟩), .pointer (some ⟨c, 1, none⟩), .slice (some ⟨g8, 0, none⟩) 0 0, .slice (some ⟨q, ko, none⟩) os.length pc, .int .i64 (os.length : Int), .int .i64 (t : Int), .bool true, .pointer (some ⟨q, ko + t * 6, none⟩), .agg (opA (⟨kd, oa, on, nm, .slice ba x_.l.length bc, .slice ka x_.kp.length kc⟩ : OX)), fy 51, fy 52, fy 53, fy 54, fy 55, fy 56, fy 57, fy 58, fy 59, fy 60, fy 61, fy 62, fy 63, fy 64, fy 65, fy 66, fy 67, fy 68, fy 69, fy 70, fy 71, fy 72, fy 73, fy 74, fy 75, fy 76, fy 77, fy 78, fy 79, fz 80, fz 81, fz 82, fz 83, fz 84, fz 85, fz 86, fz 87, fz 88, fz 89, fz 90, fz 91, fz 92, fz 93, fz 94, fz 95, fz 96, fz 97, fz 98, fz 99, fz 100, fz 101, fz 102, fz 103, fz 104, fz 105, fz 106, fz 107, fz 108, fz 109, fz 110, fz 111, fz 112, fz 113, fz 114, fz 115, undef, undef, undef, undef, undef, undef, undef, undef, undef, undef, undef, undef, undef, undef, undef, undef, undef, undef, undef, undef, undef, undef, undef, undef, undef, undef, undef, undef, undef, undef], defers := [] } wX := by
    clear M1 B1 H1 z00 JO
    intro fy G2 Os2 vo2 wX hM hO2 hBX hH
    have MX := Keep.mk hM
    have OX_ := Keep.mk hO2
    have BX := Keep.mk hBX
    have HX0 := Keep.mk hH
    clear hM hO2 hBX hH
    refine hK15 _ _ ?_
    refine wp_seq_k fun K17 hK17 => ?_
    refine wp_seq_k fun K18 hK18 => ?_
    have HRX := Keep.mk (HRw.out.below BX.out)
    have HKX := Keep.mk (HKw.out.below BX.out)
    refine rgn ?_
    refine VlS (.pointer (some ⟨G2.g, 0, none⟩)) ?_
    refine WL.mid (by kernel_rfl) 43 (.tmp 10) rfl z0 0 rfl (opA (⟨kd, oa, on, nm, .slice ba x_.l.length bc, .slice ka x_.kp.length kc⟩ : OX)).toList _ (blk_range HX0.out) Tryz.underlying43 rfl (Tryz.sizeOL (⟨kd, oa, on, nm, .slice ba x_.l.length bc, .slice ka x_.kp.length kc⟩ : OX)) ?_
    rw [opA_back]
    simp only [Act.put, pqA, pqB, pqC]
    refine WL.callF (by kernel_rfl) 11 _ _ rfl Tryz.in11 #[.pointer (some ⟨G2.g, 0, none⟩), .agg (opA (⟨kd, oa, on, nm, .slice ba x_.l.length bc, .slice ka x_.kp.length kc⟩ : OX))] (by simp [Act.eval]) ?_
    refine (do_any G2 D (usd ks + opb (os.take t)) (t : Int) oa on nm _ _ x_.l x_.kp wX MX.out.cur MX.out.ok (by have := HUt.out; omega) (by have := HUt.out; omega) (by have := HUt.out; omega) HNm.out HRX.out (fun hn k hk e => by have h1 := HRw.out.lt' hn k hk; have h2 := MX.out.lo k e; omega) HKX.out (fun hn k hk e => by have h1 := HKw.out.lt' hn k hk; have h2 := MX.out.lo k e; omega) kd).mono ?_
    rintro e w2 ⟨rfl, G3, k1, k2⟩
    refine ⟨_, rfl, ?_⟩
    have M2 := Keep.mk (MX.out.step k1 k2 (MX.out.ok.step kd on HOn.out nm x_.l x_.kp HYx.out) BX.out.size)
    have e3 : G3.g = G2.g := k2.1
    have B2 : Keep (Below w.heap.size w w2) := ⟨BX.out.trans (k2.2.1.to_below (fun k hk e => by have := MX.out.lo k e; omega) BX.out.size)⟩
    obtain ⟨D2, hD2⟩ : ∃ z, Keep (z = stepD D kd on nm x_.l x_.kp) := ⟨_, ⟨rfl⟩⟩
    rw [← hD2.out] at M2
    clear k1 k2 HRX HKX hD2
    rw [← e3]
    clear e3
    simp only [Act.put, pqA, pqB, pqC]
    refine VbF ?_
    refine VbF ?_
    refine VlS (.pointer (some ⟨G3.g, 0, none⟩)) ?_
    refine WL.callF (by kernel_rfl) 12 _ _ rfl Tryz.in12 #[.pointer (some ⟨G3.g, 0, none⟩)] (by simp [Act.eval]) ?_
    refine (alike_any G3 D2 _ _ w2 M2.out.cur M2.out.ok (by have := HUt.out; omega)).mono ?_
    rintro e w3 ⟨rfl, hb⟩
    refine ⟨_, rfl, ?_⟩
    have M3 := Keep.mk (M2.out.below hb)
    have B3 : Keep (Below w.heap.size w w3) := ⟨B2.out.trans (hb.mono B2.out.size)⟩
    clear hb M2 B2
    simp only [Act.put, pqA, pqB, pqC]
    refine VbF ?_
    refine VbF ?_
    refine WL.nil (hK18 _ _ ?_)
    refine wp_cond_false rfl ?_
    refine wp_skip ?_
    refine hK17 _ _ ?_
    refine wp_seq_k fun K19 hK19 => ?_
    have g1 := M3.out.cur.c1
    refine rgn ?_
    refine VlS (.pointer (some ⟨G3.g, 0, none⟩)) ?_
    refine VlS (.pointer (some ⟨G3.g, 0, none⟩)) ?_
    refine VlS (.pointer (some ⟨G3.g, 1, none⟩)) ?_
    refine VlS (.pointer (some ⟨G3.h, 0, none⟩)) ?_
    clear g1
    refine WL.callF (by kernel_rfl) 13 _ _ rfl Tryz.in13 #[.pointer (some ⟨G3.h, 0, none⟩)] (by simp [Act.eval]) ?_
    refine (files_any G3.h G3.p G3.vf G3.cs D2 w3 M3.out.cur.hd M3.out.cur.dsk (by rw [M3.out.cur.dsk.fcs.len]; have := M3.out.ok.lay.len; omega) (fun f hf => by have h := usd_mem_le hf; have := M3.out.ok.us; have := HUt.out; omega)).mono ?_
    rintro e w4 ⟨v4, ct, rfl, k1, k2, k3, k4, k5⟩
    refine ⟨_, rfl, ?_⟩
    have HAp := Keep.mk k2.apart
    have hcl : ct.length ≤ 256 := by rw [k2.len]; exact M3.out.ok.lay.len
    have HCl := Keep.mk hcl
    have T4 : Keep (WrT w3.heap.size w3 v4 ct 0 w4) := ⟨⟨k1, k3, fun j y _ hy => by
     have hj := (List.getElem?_eq_some_iff.1 hy).1
     have hf : D2.fs[j]? = some (D2.fs[j]'(by rw [← k2.len]; exact hj)) := List.getElem?_eq_getElem _
     exact ⟨_, (k2.each j y _ hy hf).2.2, by have h := usd_at hf; have := M3.out.ok.us; have := HUt.out; omega, fun k hk => k4 j y k hy hk⟩, Grown.below k5⟩⟩
    obtain ⟨va4, vc4, e4⟩ := k1.sl
    subst e4
    clear k1 k2 k3 k4 k5 hcl
    simp only [Act.put, pqA, pqB, pqC]
    refine VlS (.slice va4 ct.length vc4) ?_
    refine WL.nil (hK19 _ _ ?_)
    refine wp_seq_k fun K20 hK20 => rgn ?_
    refine VlS (.slice va4 ct.length vc4) ?_
    refine VlS (.int .i64 (ct.length : Int)) ?_
    refine VlS (.int .i64 0) ?_
    refine WL.nil (hK20 _ _ ?_)
    refine wp_block ?_
    refine wp_loop (fun ac wr => ∃ (j : Nat), ac = apF (fun fx => { tmps := #[.slice fa ks.length fc, .int .i64 r, .slice (some ⟨q, ko, none⟩) os.length pc, undef, undef, undef, fz 6, .pointer (some ⟨G3.g, 0, none⟩), vo2, undef, .pointer (some ⟨z0, 0, none⟩), fy 11, .slice va4 ct.length vc4, undef, fx 14, fx 15, undef, undef, undef, undef, undef, .bool true, .bool false, .slice fa ks.length fc, .slice (some ⟨q, ko, none⟩) os.length pc, .bool false, .int .i64 r, .slice fa ks.length fc, .pointer (some ⟨x, 0, none⟩), .agg (gz x), .pointer (some ⟨c, 0, none⟩), .tuple #[.pointer (some ⟨pd, 0, none⟩), .pointer (some ⟨ph, 0, none⟩)], .pointer (some ⟨c, 0, none⟩), .pointer (some ⟨c, 0, none⟩), .int .i64 r, .slice fa ks.length fc, v4, .tuple #[.pointer (some ⟨pd, 0, none⟩), .pointer (some ⟨ph, 0, none⟩)], .pointer (some ⟨pd, 0, none⟩), .pointer (some ⟨ph, 0, none⟩), .pointer (some ⟨c, 0, none⟩), .pointer (some ⟨c, 0, none⟩), .pointer (some ⟨c, 0, none⟩), .pointer (some ⟨c, 1, none⟩), .slice (some ⟨g8, 0, none⟩) 0 0, .slice (some ⟨q, ko, none⟩) os.length pc, .int .i64 (os.length : Int), .int .i64 (t : Int), .bool true, .pointer (some ⟨q, ko + t * 6, none⟩), .agg (opA (⟨kd, oa, on, nm, .slice ba x_.l.length bc, .slice ka x_.kp.length kc⟩ : OX)), fy 51, fy 52, fy 53, fy 54, fy 55, fy 56, fy 57, fy 58, fy 59, fy 60, fy 61, fy 62, fy 63, fy 64, fy 65, fy 66, fy 67, fy 68, fy 69, fy 70, fy 71, fy 72, fy 73, fy 74, fy 75, fy 76, fy 77, fy 78, fy 79, .pointer (some ⟨G3.g, 0, none⟩), .agg (opA (⟨kd, oa, on, nm, .slice ba x_.l.length bc, .slice ka x_.kp.length kc⟩ : OX)), .bool true, .bool false, .bool false, .pointer (some ⟨G3.g, 0, none⟩), .bool true, .bool false, .bool false, .pointer (some ⟨G3.g, 0, none⟩), .pointer (some ⟨G3.g, 0, none⟩), .pointer (some ⟨G3.g, 1, none⟩), .pointer (some ⟨G3.h, 0, none⟩), .slice va4 ct.length vc4, .slice va4 ct.length vc4, .int .i64 (ct.length : Int), .int .i64 (j : Int), fx 97, fx 98, fx 99, fx 100, fx 101, fx 102, fx 103, fx 104, fx 105, fx 106, fx 107, fx 108, fx 109, fx 110, fx 111, fx 112, fx 113, fx 114, fz 115, undef, undef, undef, undef, undef, undef, undef, undef, undef, undef, undef, undef, undef, undef, undef, undef, undef, undef, undef, undef, undef, undef, undef, undef, undef, undef, undef, undef, undef, undef], defers := [] }) ac ∧ j ≤ ct.length ∧ WrT w3.heap.size w3 (.slice va4 ct.length vc4) ct j wr) (fun a _ => ct.length - (intOf (a.tmps.getD 96 undef)).toNat) ⟨0, rfl, Nat.zero_le _, T4.out⟩ ?_
    clear T4
    rintro ac wr ⟨j, hac, hj, hJ1⟩
    obtain ⟨fx, rfl⟩ := unF hac
    have T5 := Keep.mk hJ1
    clear hJ1
    by_cases hlt2 : j < ct.length
    ·have hlt2' : (j : Int) < (ct.length : Int) := by omega
     have hwj : IntKind.i64.wrap ((j : Int) + 1) = (j : Int) + 1 := by rw [IntKind.wrap_i64]; have := HCl.out; omega
     obtain ⟨y, hy⟩ : ∃ y, ct[j]? = some y := ⟨ct[j], List.getElem?_eq_getElem hlt2⟩
     obtain ⟨g5, ha, hrg⟩ := T5.out.own.at hy
     subst ha
     obtain ⟨l5, h1, h2, -⟩ := T5.out.rows j y (Nat.le_refl _) hy
     obtain ⟨xn, xb, xs⟩ := y
     obtain ⟨xa, xc, hxb⟩ := row_form h1.row
     change xb = _ at hxb
     subst hxb
     have HY := Keep.mk hy
     have HRg := Keep.mk hrg
     have HO5 := Keep.mk h1
     have HL5 := Keep.mk h2
     clear hy hrg h1 h2
     refine wp_seq_k fun K21 hK21 => rgn ?_
     refine VbT ?_
     refine WL.nil (hK21 _ _ ?_)
     refine wp_seq_k fun K22 hK22 => ?_
     refine wp_cond_true rfl ?_
     refine wp_skip ?_
     refine hK22 _ _ ?_
     refine wp_seq_k fun K23 hK23 => ?_
     refine wp_block ?_
     refine wp_seq_k fun K24 hK24 => rgn ?_
     refine VlS (.pointer (some ⟨g5, j * 3, none⟩)) ?_
     refine WL.mid (by kernel_rfl) 49 (.tmp 98) rfl g5 (j * 3) rfl (fA (⟨xn, .slice xa l5.length xc, xs⟩ : FC)).toList _ HRg.out Tryz.underlying49 rfl (Tryz.sizeFL (⟨xn, .slice xa l5.length xc, xs⟩ : FC)) ?_
     rw [fA_back]
     simp only [Act.put, pqA, pqB, pqC]
     refine WL.new (by kernel_rfl) 49 rfl _ Tryz.newF ?_
     have HN := Keep.mk (Blk.new wr 49 (fA zeroF))
     have BN := Keep.mk (below_new wr (.cells (fA zeroF) 49))
     generalize wr.alloc (.cells (fA zeroF) 49) = wa at *
     obtain ⟨z5, hz5⟩ : ∃ z, Keep (z = wr.heap.size) := ⟨_, ⟨rfl⟩⟩
     rw [← hz5.out] at HN ⊢
     have L5 : Keep (wr.heap.size ≤ z5) := ⟨by rw [hz5.out]; exact Nat.le_refl _⟩
     simp only [Act.put, pqA, pqB, pqC]
     refine WL.storeR (by kernel_rfl) 49 (.tmp 14) (.tmp 99) rfl z5 (fA (⟨xn, .slice xa l5.length xc, xs⟩ : FC)) rfl rfl 49 (fA zeroF) HN.out (Tryz.sizeFB (⟨xn, .slice xa l5.length xc, xs⟩ : FC)) rfl (SlF.one ⟨_, _, _, rfl⟩) ?_
     have H6 := Keep.mk (HN.out.setRow (fA (⟨xn, .slice xa l5.length xc, xs⟩ : FC)))
     have b6 := Keep.mk (below_setRow BN.out (b := z5) L5.out (fA (⟨xn, .slice xa l5.length xc, xs⟩ : FC)))
     clear HN BN hz5 HRg
     generalize wa.setRow z5 (fA (⟨xn, .slice xa l5.length xc, xs⟩ : FC)) = w6 at *
     have T6 := Keep.mk (T5.out.below b6.out)
     have XS6 : Keep (XV w6 (.slice xa l5.length xc) l5.length w6) := ⟨(HO5.out.grown (Grown.below (S := fun _ => False) b6.out) fun _ _ e => e).xv⟩
     have NZ : Keep (∀ k, (Value.slice xa l5.length xc).ownBlock = some k → k ≠ z5) := ⟨fun k hk e => by have := HO5.out.lt k hk; have := L5.out; omega⟩
     clear T5 HO5 b6
     have z51 := H6.out.c 1 (by rfl : (fA (⟨xn, .slice xa l5.length xc, xs⟩ : FC))[1]? = some (.slice xa l5.length xc))
     simp only [Act.put]
     refine WL.nil (hK24 _ _ ?_)
     refine wp_seq_k fun K25 hK25 => rgn ?_
     refine VlS (.pointer (some ⟨z5, 1, none⟩)) ?_
     refine VlS (.slice xa l5.length xc) ?_
     refine VlS (.int .i64 (l5.length : Int)) ?_
     refine VlS (.int .i64 0) ?_
     refine WL.nil (hK25 _ _ ?_)
     refine wp_block ?_
     clear z51
     refine wp_loop (fun ac wr => ∃ (m : Nat), ac = apF (fun fw => { tmps := #[.slice fa ks.length fc, .int .i64 r, .slice (some ⟨q, ko, none⟩) os.length pc, undef, undef, undef, fz 6, .pointer (some ⟨G3.g, 0, none⟩), vo2, undef, .pointer (some ⟨z0, 0, none⟩), fy 11, .slice (some ⟨g5, 0, none⟩) ct.length vc4, undef, .pointer (some ⟨z5, 0, none⟩), fw 15, undef, undef, undef, undef, undef, .bool true, .bool false, .slice fa ks.length fc, .slice (some ⟨q, ko, none⟩) os.length pc, .bool false, .int .i64 r, .slice fa ks.length fc, .pointer (some ⟨x, 0, none⟩), .agg (gz x), .pointer (some ⟨c, 0, none⟩), .tuple #[.pointer (some ⟨pd, 0, none⟩), .pointer (some ⟨ph, 0, none⟩)], .pointer (some ⟨c, 0, none⟩), .pointer (some ⟨c, 0, none⟩), .int .i64 r, .slice fa ks.length fc, v4, .tuple #[.pointer (some ⟨pd, 0, none⟩), .pointer (some ⟨ph, 0, none⟩)], .pointer (some ⟨pd, 0, none⟩), .pointer (some ⟨ph, 0, none⟩), .pointer (some ⟨c, 0, none⟩), .pointer (some ⟨c, 0, none⟩), .pointer (some ⟨c, 0, none⟩), .pointer (some ⟨c, 1, none⟩), .slice (some ⟨g8, 0, none⟩) 0 0, .slice (some ⟨q, ko, none⟩) os.length pc, .int .i64 (os.length : Int), .int .i64 (t : Int), .bool true, .pointer (some ⟨q, ko + t * 6, none⟩), .agg (opA (⟨kd, oa, on, nm, .slice ba x_.l.length bc, .slice ka x_.kp.length kc⟩ : OX)), fy 51, fy 52, fy 53, fy 54, fy 55, fy 56, fy 57, fy 58, fy 59, fy 60, fy 61, fy 62, fy 63, fy 64, fy 65, fy 66, fy 67, fy 68, fy 69, fy 70, fy 71, fy 72, fy 73, fy 74, fy 75, fy 76, fy 77, fy 78, fy 79, .pointer (some ⟨G3.g, 0, none⟩), .agg (opA (⟨kd, oa, on, nm, .slice ba x_.l.length bc, .slice ka x_.kp.length kc⟩ : OX)), .bool true, .bool false, .bool false, .pointer (some ⟨G3.g, 0, none⟩), .bool true, .bool false, .bool false, .pointer (some ⟨G3.g, 0, none⟩), .pointer (some ⟨G3.g, 0, none⟩), .pointer (some ⟨G3.g, 1, none⟩), .pointer (some ⟨G3.h, 0, none⟩), .slice (some ⟨g5, 0, none⟩) ct.length vc4, .slice (some ⟨g5, 0, none⟩) ct.length vc4, .int .i64 (ct.length : Int), .int .i64 (j : Int), .bool true, .pointer (some ⟨g5, j * 3, none⟩), .agg (fA (⟨xn, .slice xa l5.length xc, xs⟩ : FC)), .pointer (some ⟨z5, 1, none⟩), .slice xa l5.length xc, .int .i64 (l5.length : Int), .int .i64 (m : Int), fw 104, fw 105, fw 106, fw 107, fw 108, fw 109, fw 110, fw 111, fw 112, fw 113, fx 114, fz 115, undef, undef, undef, undef, undef, undef, undef, undef, undef, undef, undef, undef, undef, undef, undef, undef, undef, undef, undef, undef, undef, undef, undef, undef, undef, undef, undef, undef, undef, undef], defers := [] }) ac ∧ m ≤ l5.length ∧ XV w6 (.slice xa l5.length xc) l5.length wr) (fun a _ => l5.length - (intOf (a.tmps.getD 103 undef)).toNat) ⟨0, rfl, Nat.zero_le _, XS6.out⟩ ?_
     clear XS6
     rintro ac wr ⟨m, hac, hm, hJ1⟩
     obtain ⟨fw, rfl⟩ := unF hac
     have X7 := Keep.mk hJ1
     clear hJ1
     have H7 : Keep (Blk wr z5 49 (fA (⟨xn, .slice xa l5.length xc, xs⟩ : FC))) := ⟨X7.out.grown.blk H6.out fun e => NZ.out z5 e rfl⟩
     by_cases hlt3 : m < l5.length
     ·have hlt3' : (m : Int) < (l5.length : Int) := by omega
      have hwm : IntKind.i64.wrap ((m : Int) + 1) = (m : Int) + 1 := by rw [IntKind.wrap_i64]; have := HL5.out; omega
      have z51 := H7.out.c 1 (by rfl : (fA (⟨xn, .slice xa l5.length xc, xs⟩ : FC))[1]? = some (.slice xa l5.length xc))
      obtain ⟨k7, c7, e7, hx7⟩ : ∃ k c, Value.slice xa l5.length xc = .slice (some ⟨k, 0, none⟩) l5.length c ∧ XR w6 k l5.length wr := by
       rcases X7.out with ⟨h, _⟩ | h
       ·omega
       ·exact h
      injection e7 with e71 e72 e73
      subst e71
      clear e72 e73
      obtain ⟨z, cz, f_o, hst⟩ := hx7.step hlt3
      have HST : Keep (XV w6 (.slice (some ⟨k7, 0, none⟩) l5.length xc) l5.length (wr.setCell ⟨k7, m, none⟩ (.int .u8 (bits .xor .u8 z 255)))) := ⟨.inr ⟨k7, xc, rfl, hst _⟩⟩
      clear hst hx7 X7
      refine wp_seq_k fun K26 hK26 => rgn ?_
      refine VbT ?_
      refine WL.nil (hK26 _ _ ?_)
      refine wp_seq_k fun K27 hK27 => ?_
      refine wp_cond_true rfl ?_
      refine wp_skip ?_
      refine hK27 _ _ ?_
      refine wp_seq_k fun K28 hK28 => ?_
      refine wp_block ?_
      refine wp_seq_k fun K29 hK29 => rgn ?_
      refine VlS (.int .i64 (m : Int)) ?_
      refine VlS (.int .i64 (m : Int)) ?_
      refine WL.nil (hK29 _ _ ?_)
      refine rgn ?_
      refine VlS (.pointer (some ⟨z5, 1, none⟩)) ?_
      refine VlS (.slice (some ⟨k7, 0, none⟩) l5.length xc) ?_
      refine VlS (.int .i64 (m : Int)) ?_
      refine VlS (.pointer (some ⟨k7, m, none⟩)) ?_
      refine VlS (.int .u8 z) ?_
      refine VlS (.int .u8 (bits .xor .u8 z 255)) ?_
      refine VlS (.pointer (some ⟨k7, m, none⟩)) ?_
      refine WL.cell (by kernel_rfl) (wr.setCell ⟨k7, m, none⟩ (.int .u8 (bits .xor .u8 z 255))) (by go_simp) ?_
      clear cz f_o z51
      generalize wr.setCell ⟨k7, m, none⟩ (.int .u8 (bits .xor .u8 z 255)) = w8 at *
      simp only [Act.put]
      refine WL.nil (hK28 _ _ ?_)
      refine rgn ?_
      refine VlS (.int .i64 ((m : Int) + 1)) ?_
      refine VlS (.int .i64 ((m : Int) + 1)) ?_
      refine WL.nil ?_
      refine ⟨⟨m + 1, rfl, by omega, HST.out⟩, ?_⟩
      simp only [intOf]; show l5.length - ((m : Int) + 1).toNat < l5.length - ((m : Int)).toNat; omega
     ·have hlt3' : ¬ (m : Int) < (l5.length : Int) := by omega
      have T7 := Keep.mk (T6.out.next HY.out X7.out.grown HAp.out)
      refine wp_seq_k fun K30 hK30 => rgn ?_
      refine VbF ?_
      refine WL.nil (hK30 _ _ ?_)
      refine wp_seq_k fun K31 hK31 => ?_
      refine wp_cond_false rfl ?_
      refine wp_exit ?_
      refine hK23 _ _ ?_
      refine rgn ?_
      refine VlS (.int .i64 ((j : Int) + 1)) ?_
      refine VlS (.int .i64 ((j : Int) + 1)) ?_
      refine WL.nil ?_
      refine ⟨⟨j + 1, rfl, by omega, T7.out⟩, ?_⟩
      simp only [intOf]; show ct.length - ((j : Int) + 1).toNat < ct.length - ((j : Int)).toNat; omega
    ·have hlt2' : ¬ (j : Int) < (ct.length : Int) := by omega
     have ME := Keep.mk (M3.out.grown T5.out.gr fun k hk e => by omega)
     have BE : Keep (Below w.heap.size w wr) := ⟨B3.out.trans (T5.out.gr.to_below (fun k hk e => by have := B3.out.size; omega) B3.out.size)⟩
     refine wp_seq_k fun K32 hK32 => rgn ?_
     refine VbF ?_
     refine WL.nil (hK32 _ _ ?_)
     refine wp_seq_k fun K33 hK33 => ?_
     refine wp_cond_false rfl ?_
     refine wp_exit ?_
     refine hK13 _ _ ?_
     refine rgn ?_
     refine VlS (.int .i64 ((t : Int) + 1)) ?_
     refine VlS (.int .i64 ((t : Int) + 1)) ?_
     refine WL.nil ?_
     refine ⟨⟨t + 1, G3, D2, Os2, vo2, rfl, by omega, ?_, OX_.out, BE.out⟩, ?_⟩
     ·have h := ME.out
      rw [show usd ks + opb (os.take (t + 1)) = (usd ks + opb (os.take t)) + (x_.l.length : Int) by rw [opb_step Hx.out]; omega, show ((t + 1 : Nat) : Int) = (t : Int) + 1 from rfl]
      exact h
     ·simp only [intOf]; show os.length - ((t : Int) + 1).toNat < os.length - ((t : Int)).toNat; omega
   by_cases hk10 : kd = 10
   ·skip
    refine rgn ?_
    refine VlS (.pointer (some ⟨z0, 0, none⟩)) ?_
    refine VlS (.int .i64 kd) ?_
    refine VbT ?_
    refine WL.nil (hK16 _ _ ?_)
    refine wp_cond_true rfl ?_
    refine wp_seq_k fun K34 hK34 => ?_
    clear z00
    have g2 := M1.out.cur.c2
    refine rgn ?_
    refine VlS (.pointer (some ⟨G.g, 0, none⟩)) ?_
    refine VlS (.pointer (some ⟨G.g, 0, none⟩)) ?_
    refine VlS (.pointer (some ⟨G.g, 2, none⟩)) ?_
    refine VlS (.pointer (some ⟨G.x, 0, none⟩)) ?_
    clear g2
    refine WL.callF (by kernel_rfl) 9 _ _ rfl Tryz.in9 #[.pointer (some ⟨G.x, 0, none⟩)] (by simp [Act.eval]) ?_
    refine (rcopy_any G.x G.vr G.va G.cr G.ms D w1 M1.out.cur.ref (by rw [M1.out.cur.ref.rcs.len]; exact M1.out.ok.lay.len) (by have h1 : (G.ms.length : Int) = D.acts := M1.out.cur.ref.num.1; have h2 := M1.out.ok.acts; have h3 := HUt.out; omega) (fun f hf => by have h := usd_mem_le hf; have := M1.out.ok.us; have := HUt.out; omega)).mono ?_
    rintro e w2 ⟨x2, vr2, va2, cr2, rfl, k1, k2, k3, k4⟩
    refine ⟨_, rfl, ?_⟩
    have R2 := Keep.mk k1
    have LR2 := Keep.mk k3
    have b2 : Keep (Below w1.heap.size w1 w2) := ⟨k4⟩
    clear k1 k2 k3 k4
    simp only [Act.put, pqA, pqB, pqC]
    refine WL.bld (by kernel_rfl) 35 _ rfl [(2, .pointer (some ⟨x2, 0, none⟩))] (by simp [Act.eval]) _ (g_built x2) ?_
    simp only [Act.put, pqA, pqB, pqC]
    refine WL.box (by kernel_rfl) 35 (.tmp 59) rfl (gz x2) rfl ?_
    have C3 := Keep.mk (Blk.new w2 35 (gz x2))
    have b3z := Keep.mk (below_new w2 (.cells (gz x2) 35))
    change WL _ _ _ _ _ (w2.alloc (.cells (gz x2) 35))
    generalize w2.alloc (.cells (gz x2) 35) = w3 at *
    obtain ⟨c2, hc2⟩ : ∃ z, Keep (z = w2.heap.size) := ⟨_, ⟨rfl⟩⟩
    rw [← hc2.out] at C3 ⊢
    have R3 := Keep.mk (R2.out.below b3z.out)
    have b3 : Keep (Below w1.heap.size w1 w3) := ⟨b2.out.trans (b3z.out.mono b2.out.size)⟩
    have Lc : Keep (w2.heap.size = c2 ∧ c2 < w3.heap.size) := ⟨hc2.out.symm, C3.out.lt⟩
    have M3 := Keep.mk (M1.out.below b3.out)
    clear hc2 b3z
    simp only [Act.put, pqA, pqB, pqC]
    refine VlS (.pointer (some ⟨c2, 0, none⟩)) ?_
    refine WL.nil (hK34 _ _ ?_)
    refine wp_seq_k fun K35 hK35 => ?_
    have g1 := M3.out.cur.c1
    refine rgn ?_
    refine VlS (.pointer (some ⟨c2, 0, none⟩)) ?_
    refine VlS (.pointer (some ⟨c2, 0, none⟩)) ?_
    refine VlS (.pointer (some ⟨G.g, 0, none⟩)) ?_
    refine VlS (.pointer (some ⟨G.g, 0, none⟩)) ?_
    refine VlS (.pointer (some ⟨G.g, 1, none⟩)) ?_
    refine VlS (.pointer (some ⟨G.h, 0, none⟩)) ?_
    clear g1
    refine WL.callF (by kernel_rfl) 10 _ _ rfl Tryz.in10 #[.pointer (some ⟨G.h, 0, none⟩)] (by simp [Act.eval]) ?_
    refine (copy_any G.h G.p G.vf G.cs D w3 M3.out.cur.hd M3.out.cur.dsk M3.out.ok.lay (by have := M3.out.ok.us; have := HUt.out; omega)).mono ?_
    rintro e w4 ⟨ps2, pd2, ph2, vf2, cs2, rfl, k1, k2, k3, k4, k5, k6⟩
    refine ⟨_, rfl, ?_⟩
    rw [dv_used M3.out.ok.used] at k1
    have D4 := Keep.mk k1
    have P4 := Keep.mk k2
    have Q4 := Keep.mk k3
    have L4 := Keep.mk k4
    have LD4 := Keep.mk k5
    have R4 := Keep.mk (R3.out.below k6)
    have C4 := Keep.mk (C3.out.below k6 C3.out.lt)
    have b4 : Keep (Below w1.heap.size w1 w4) := ⟨b3.out.trans (k6.mono b3.out.size)⟩
    clear k1 k2 k3 k4 k5 k6 R3 C3 M3
    have cl := C4.out.c 0 (by rfl : (gz x2)[0]? = some (.pointer none))
    have f_o := C4.out.frozen 0
    simp only [Act.put, pqA, pqB, pqC]
    refine VlS (.tuple #[.pointer (some ⟨pd2, 0, none⟩), .pointer (some ⟨ph2, 0, none⟩)]) ?_
    refine VlS (.pointer (some ⟨pd2, 0, none⟩)) ?_
    refine VlS (.pointer (some ⟨ph2, 0, none⟩)) ?_
    refine VlS (.pointer (some ⟨c2, 0, none⟩)) ?_
    refine VlS (.pointer (some ⟨c2, 0, none⟩)) ?_
    refine WL.cell (by kernel_rfl) (w4.setCell ⟨c2, 0, none⟩ (ptr pd2)) (by go_simp) ?_
    have C5 := Keep.mk (C4.out.set 0 (ptr pd2))
    have g5 : Keep (Grown w4 (w4.setCell ⟨c2, 0, none⟩ (ptr pd2)) fun k => k = c2) := ⟨Grown.setCell w4 c2 0 _ fun _ => rfl⟩
    clear cl f_o
    generalize (w4.setCell ⟨c2, 0, none⟩ (ptr pd2)) = w5 at *
    have cl := C5.out.c 1 (by rfl : ((gz x2).setIfInBounds 0 (ptr pd2))[1]? = some (.pointer none))
    have f_o := C5.out.frozen 1
    simp only [Act.put]
    refine VlS (.pointer (some ⟨c2, 0, none⟩)) ?_
    refine VlS (.pointer (some ⟨c2, 1, none⟩)) ?_
    refine WL.cell (by kernel_rfl) (w5.setCell ⟨c2, 1, none⟩ (ptr ph2)) (by go_simp) ?_
    have C6 : Keep (Blk (w5.setCell ⟨c2, 1, none⟩ (ptr ph2)) c2 35 (kxG pd2 ph2 x2 (.slice none 0 0) (.slice none 0 0) 0)) := ⟨C5.out.set 1 (ptr ph2)⟩
    have g6 : Keep (Grown w4 (w5.setCell ⟨c2, 1, none⟩ (ptr ph2)) fun k => k = c2) := ⟨g5.out.trans (Grown.setCell w5 c2 1 _ fun _ => rfl)⟩
    clear cl f_o g5 C5
    generalize (w5.setCell ⟨c2, 1, none⟩ (ptr ph2)) = w6 at *
    have ncP : ∀ k, DskS ps2 vf2 cs2 k → k ≠ c2 := fun k hk e => by have h1 := LD4.out k hk; have := Lc.out; omega
    have ncR : ∀ k, RdS x2 vr2 va2 cr2 k → k ≠ c2 := fun k hk e => by have h1 := R2.out.sLt hk; have := Lc.out; omega
    have ncd : pd2 ≠ c2 := fun e => by have := L4.out; have := Lc.out; omega
    have nch : ph2 ≠ c2 := fun e => by have := L4.out; have := Lc.out; omega
    have G6 : Keep (GvAt w6 (⟨c2, pd2, ph2, ps2, x2, vf2, vr2, va2, cs2, cr2, G.ms, fun _ => False⟩ : GV) D D) := ⟨GvAt.fresh C6.out (g6.out.blk P4.out ncd) (g6.out.blk Q4.out nch) (D4.out.gr g6.out ncP) (R4.out.grown g6.out ncR) fun k h1 h2 => by have e1 := LD4.out k h1; have e2 := R2.out.sLt h2; have := Lc.out; omega⟩
    have LU : Keep (∀ k, (GV.U (⟨c2, pd2, ph2, ps2, x2, vf2, vr2, va2, cs2, cr2, G.ms, fun _ => False⟩ : GV)) k → w1.heap.size ≤ k) := ⟨fun k hk => by
     have s2 := b2.out.size
     have s3 := b3.out.size
     rcases hk with e | e | e | hk | hk | hk
     ·have e : k = c2 := e; have := Lc.out; omega
     ·have e : k = pd2 := e; have := L4.out; omega
     ·have e : k = ph2 := e; have := L4.out; omega
     ·have := LD4.out k hk; omega
     ·have := LR2.out k hk; omega
     ·exact hk.elim⟩
    have b6 : Keep (Below w1.heap.size w1 w6) := ⟨b4.out.trans (g6.out.to_below (fun k hk e => by have := Lc.out; have := b2.out.size; omega) b4.out.size)⟩
    clear ncP ncR ncd nch g6 C6 D4 P4 Q4 R4 LD4 LR2 L4 b4 b3 R2 Lc
    simp only [Act.put]
    refine WL.nil (hK35 _ _ ?_)
    refine wp_seq_k fun K36 hK36 => rgn ?_
    refine VlS (vo) ?_
    refine VlS (.pointer (some ⟨G.g, 0, none⟩)) ?_
    refine WL.bs (by kernel_rfl) 39 1 _ rfl #[(0, .pointer (some ⟨G.g, 0, none⟩))] (by simp [Act.eval]) _ _ (bsG1 G.g w6) ?_
    have HL := Keep.mk (Blk.new w6 26 #[.pointer (some ⟨G.g, 0, none⟩)])
    have hz := below_new w6 (.cells #[.pointer (some ⟨G.g, 0, none⟩)] 26)
    have G6b := Keep.mk (G6.out.below hz)
    have b6b : Keep (Below w1.heap.size w1 (w6.alloc (.cells #[.pointer (some ⟨G.g, 0, none⟩)] 26))) := ⟨b6.out.trans (hz.mono b6.out.size)⟩
    clear hz G6 b6
    generalize w6.alloc (.cells #[.pointer (some ⟨G.g, 0, none⟩)] 26) = w6b at *
    obtain ⟨gl, hgl⟩ : ∃ z, Keep (z = w6.heap.size) := ⟨_, ⟨rfl⟩⟩
    rw [← hgl.out] at HL ⊢
    clear hgl
    simp only [Act.put, pqA, pqB, pqC]
    refine WL.appGs (by kernel_rfl) (.tmp 75) (.tmp 77) rfl vo w.heap.size Os.length _ gl G.g rfl rfl (owns_below M1.out.own b6b.out) (HL.out.c 0 rfl) (by have := JO.out; have := HUt.out; omega) (Nat.le_trans B1.out.size b6b.out.size) fun v7 w7 k1 k2 k3 => ?_
    have M7 := Keep.mk (M1.out.copy b6b.out G6b.out LU.out k1 k2 k3 B1.out.size (by have := HUt.out; omega) (by have := HUt.out; omega))
    have BB7 : Keep (Below w.heap.size w w7) := ⟨(B1.out.trans (b6b.out.mono B1.out.size)).trans (k2.to_below (fun k hk e => by have := (owns_lt M1.out.own k e).1; omega) (Nat.le_trans B1.out.size b6b.out.size))⟩
    have H7 : Keep (Blk w7 z0 43 (opA (⟨kd, oa, on, nm, .slice ba x_.l.length bc, .slice ka x_.kp.length kc⟩ : OX))) := ⟨k2.blk (H1.out.below b6b.out H1.out.lt) fun e => by have h1 := World.ownsRow.lt M1.out.own z0 e; have h2 := OwnQ.typ M1.out.own e; have := h2.one H1.out.typ; revert this; decide⟩
    clear k1 k2 k3
    simp only [Act.put, pqA, pqB, pqC]
    refine VlS (v7) ?_
    refine WL.nil (hK36 _ _ ?_)
    refine rgn ?_
    refine VlS (.pointer (some ⟨c2, 0, none⟩)) ?_
    refine VlS (.pointer (some ⟨c2, 0, none⟩)) ?_
    refine WL.nil ?_
    exact rest16 (fun zz => [.slice fa ks.length fc, .int .i64 r, .slice (some ⟨q, ko, none⟩) os.length pc, undef, undef, undef, fz 6, .pointer (some ⟨c2, 0, none⟩), v7, undef, .pointer (some ⟨z0, 0, none⟩), .pointer (some ⟨c2, 0, none⟩), fz 12, undef, fz 14, fz 15, undef, undef, undef, undef, undef, .bool true, .bool false, .slice fa ks.length fc, .slice (some ⟨q, ko, none⟩) os.length pc, .bool false, .int .i64 r, .slice fa ks.length fc, .pointer (some ⟨x, 0, none⟩), .agg (gz x), .pointer (some ⟨c, 0, none⟩), .tuple #[.pointer (some ⟨pd, 0, none⟩), .pointer (some ⟨ph, 0, none⟩)], .pointer (some ⟨c, 0, none⟩), .pointer (some ⟨c, 0, none⟩), .int .i64 r, .slice fa ks.length fc, v4, .tuple #[.pointer (some ⟨pd, 0, none⟩), .pointer (some ⟨ph, 0, none⟩)], .pointer (some ⟨pd, 0, none⟩), .pointer (some ⟨ph, 0, none⟩), .pointer (some ⟨c, 0, none⟩), .pointer (some ⟨c, 0, none⟩), .pointer (some ⟨c, 0, none⟩), .pointer (some ⟨c, 1, none⟩), .slice (some ⟨g8, 0, none⟩) 0 0, .slice (some ⟨q, ko, none⟩) os.length pc, .int .i64 (os.length : Int), .int .i64 (t : Int), .bool true, .pointer (some ⟨q, ko + t * 6, none⟩), .agg (opA (⟨kd, oa, on, nm, .slice ba x_.l.length bc, .slice ka x_.kp.length kc⟩ : OX)), .pointer (some ⟨z0, 0, none⟩), .int .i64 kd, .bool true, .pointer (some ⟨G.g, 0, none⟩), .pointer (some ⟨G.g, 0, none⟩), .pointer (some ⟨G.g, 2, none⟩), .pointer (some ⟨G.x, 0, none⟩), .pointer (some ⟨x2, 0, none⟩), .agg (gz x2), .pointer (some ⟨c2, 0, none⟩), .tuple #[.pointer (some ⟨pd2, 0, none⟩), .pointer (some ⟨ph2, 0, none⟩)], .pointer (some ⟨c2, 0, none⟩), .pointer (some ⟨c2, 0, none⟩), .pointer (some ⟨G.g, 0, none⟩), .pointer (some ⟨G.g, 0, none⟩), .pointer (some ⟨G.g, 1, none⟩), .pointer (some ⟨G.h, 0, none⟩), .tuple #[.pointer (some ⟨pd2, 0, none⟩), .pointer (some ⟨ph2, 0, none⟩)], .pointer (some ⟨pd2, 0, none⟩), .pointer (some ⟨ph2, 0, none⟩), .pointer (some ⟨c2, 0, none⟩), .pointer (some ⟨c2, 0, none⟩), .pointer (some ⟨c2, 0, none⟩), .pointer (some ⟨c2, 1, none⟩), vo, .pointer (some ⟨G.g, 0, none⟩), .slice (some ⟨gl, 0, none⟩) 1 1, v7, .pointer (some ⟨c2, 0, none⟩), fz 80, fz 81, fz 82, fz 83, fz 84, fz 85, fz 86, fz 87, fz 88, fz 89, fz 90, fz 91, fz 92, fz 93, fz 94, fz 95, fz 96, fz 97, fz 98, fz 99, fz 100, fz 101, fz 102, fz 103, fz 104, fz 105, fz 106, fz 107, fz 108, fz 109, fz 110, fz 111, fz 112, fz 113, fz 114, fz 115, undef, undef, undef, undef, undef, undef, undef, undef, undef, undef, undef, undef, undef, undef, undef, undef, undef, undef, undef, undef, undef, undef, undef, undef, undef, undef, undef, undef, undef, undef].getD zz undef) _ _ _ _ M7.out (by rw [List.length_append]; simp; have := JO.out; omega) BB7.out H7.out
   ·skip
    refine rgn ?_
    refine VlS (.pointer (some ⟨z0, 0, none⟩)) ?_
    refine VlS (.int .i64 kd) ?_
    refine VbF ?_
    refine WL.nil (hK16 _ _ ?_)
    refine wp_cond_false rfl ?_
    refine wp_skip ?_
    exact rest16 (fun zz => [.slice fa ks.length fc, .int .i64 r, .slice (some ⟨q, ko, none⟩) os.length pc, undef, undef, undef, fz 6, .pointer (some ⟨G.g, 0, none⟩), vo, undef, .pointer (some ⟨z0, 0, none⟩), fz 11, fz 12, undef, fz 14, fz 15, undef, undef, undef, undef, undef, .bool true, .bool false, .slice fa ks.length fc, .slice (some ⟨q, ko, none⟩) os.length pc, .bool false, .int .i64 r, .slice fa ks.length fc, .pointer (some ⟨x, 0, none⟩), .agg (gz x), .pointer (some ⟨c, 0, none⟩), .tuple #[.pointer (some ⟨pd, 0, none⟩), .pointer (some ⟨ph, 0, none⟩)], .pointer (some ⟨c, 0, none⟩), .pointer (some ⟨c, 0, none⟩), .int .i64 r, .slice fa ks.length fc, v4, .tuple #[.pointer (some ⟨pd, 0, none⟩), .pointer (some ⟨ph, 0, none⟩)], .pointer (some ⟨pd, 0, none⟩), .pointer (some ⟨ph, 0, none⟩), .pointer (some ⟨c, 0, none⟩), .pointer (some ⟨c, 0, none⟩), .pointer (some ⟨c, 0, none⟩), .pointer (some ⟨c, 1, none⟩), .slice (some ⟨g8, 0, none⟩) 0 0, .slice (some ⟨q, ko, none⟩) os.length pc, .int .i64 (os.length : Int), .int .i64 (t : Int), .bool true, .pointer (some ⟨q, ko + t * 6, none⟩), .agg (opA (⟨kd, oa, on, nm, .slice ba x_.l.length bc, .slice ka x_.kp.length kc⟩ : OX)), .pointer (some ⟨z0, 0, none⟩), .int .i64 kd, .bool false, fz 54, fz 55, fz 56, fz 57, fz 58, fz 59, fz 60, fz 61, fz 62, fz 63, fz 64, fz 65, fz 66, fz 67, fz 68, fz 69, fz 70, fz 71, fz 72, fz 73, fz 74, fz 75, fz 76, fz 77, fz 78, fz 79, fz 80, fz 81, fz 82, fz 83, fz 84, fz 85, fz 86, fz 87, fz 88, fz 89, fz 90, fz 91, fz 92, fz 93, fz 94, fz 95, fz 96, fz 97, fz 98, fz 99, fz 100, fz 101, fz 102, fz 103, fz 104, fz 105, fz 106, fz 107, fz 108, fz 109, fz 110, fz 111, fz 112, fz 113, fz 114, fz 115, undef, undef, undef, undef, undef, undef, undef, undef, undef, undef, undef, undef, undef, undef, undef, undef, undef, undef, undef, undef, undef, undef, undef, undef, undef, undef, undef, undef, undef, undef].getD zz undef) G Os vo w1 M1.out (by have := JO.out; omega) B1.out H1.out
  ·have hlt' : ¬ (t : Int) < (os.length : Int) := by omega
   obtain ⟨voa, voc, evo⟩ := owns_sl JM.out.own
   subst evo
   have HOl : Keep (Os.length ≤ 1000000000000) := ⟨by have := JO.out; have := HTot.out; have := usd_nonneg ks; have := opb_nonneg os; omega⟩
   refine wp_seq_k fun K37 hK37 => rgn ?_
   refine VbF ?_
   refine WL.nil (hK37 _ _ ?_)
   refine wp_seq_k fun K38 hK38 => ?_
   refine wp_cond_false rfl ?_
   refine wp_exit ?_
   refine hK9 _ _ ?_
   refine wp_seq_k fun K39 hK39 => ?_
   refine wp_seq_k fun K40 hK40 => ?_
   obtain ⟨tz, htz⟩ : ∃ z : Nat, Keep (z = t) := ⟨_, ⟨rfl⟩⟩
   rw [← htz.out]
   clear htz
   refine rgn ?_
   refine VlS (.slice voa Os.length voc) ?_
   refine VlS (.int .i64 (Os.length : Int)) ?_
   refine VlS (.int .i64 0) ?_
   refine WL.nil (hK40 _ _ ?_)
   refine wp_block ?_
   refine wp_loop (fun ac wz => ∃ (i : Nat), ac = apF (fun fv => { tmps := #[.slice fa ks.length fc, .int .i64 r, .slice pa os.length pc, undef, undef, undef, fv 6, .pointer (some ⟨G.g, 0, none⟩), .slice voa Os.length voc, undef, fz 10, fz 11, fz 12, undef, fz 14, fz 15, undef, fv 17, undef, undef, undef, .bool true, .bool false, .slice fa ks.length fc, .slice pa os.length pc, .bool false, .int .i64 r, .slice fa ks.length fc, .pointer (some ⟨x, 0, none⟩), .agg (gz x), .pointer (some ⟨c, 0, none⟩), .tuple #[.pointer (some ⟨pd, 0, none⟩), .pointer (some ⟨ph, 0, none⟩)], .pointer (some ⟨c, 0, none⟩), .pointer (some ⟨c, 0, none⟩), .int .i64 r, .slice fa ks.length fc, v4, .tuple #[.pointer (some ⟨pd, 0, none⟩), .pointer (some ⟨ph, 0, none⟩)], .pointer (some ⟨pd, 0, none⟩), .pointer (some ⟨ph, 0, none⟩), .pointer (some ⟨c, 0, none⟩), .pointer (some ⟨c, 0, none⟩), .pointer (some ⟨c, 0, none⟩), .pointer (some ⟨c, 1, none⟩), .slice (some ⟨g8, 0, none⟩) 0 0, .slice pa os.length pc, .int .i64 (os.length : Int), .int .i64 (tz : Int), .bool false, fz 49, fz 50, fz 51, fz 52, fz 53, fz 54, fz 55, fz 56, fz 57, fz 58, fz 59, fz 60, fz 61, fz 62, fz 63, fz 64, fz 65, fz 66, fz 67, fz 68, fz 69, fz 70, fz 71, fz 72, fz 73, fz 74, fz 75, fz 76, fz 77, fz 78, fz 79, fz 80, fz 81, fz 82, fz 83, fz 84, fz 85, fz 86, fz 87, fz 88, fz 89, fz 90, fz 91, fz 92, fz 93, fz 94, fz 95, fz 96, fz 97, fz 98, fz 99, fz 100, fz 101, fz 102, fz 103, fz 104, fz 105, fz 106, fz 107, fz 108, fz 109, fz 110, fz 111, fz 112, fz 113, fz 114, fz 115, .slice voa Os.length voc, .int .i64 (Os.length : Int), .int .i64 (i : Int), fv 119, fv 120, fv 121, fv 122, fv 123, fv 124, fv 125, undef, undef, undef, undef, undef, undef, undef, undef, undef, undef, undef, undef, undef, undef, undef, undef, undef, undef, undef, undef], defers := [] }) ac ∧ i ≤ Os.length ∧ Below wr.heap.size wr wz) (fun a _ => Os.length - (intOf (a.tmps.getD 118 undef)).toNat) ⟨0, rfl, Nat.zero_le _, Below.refl _ _⟩ ?_
   rintro ac wz ⟨i, hac, hi, hJ1⟩
   obtain ⟨fv, rfl⟩ := unF hac
   have Bz := Keep.mk hJ1
   clear hJ1
   by_cases hlt6 : i < Os.length
   ·have hlt6' : (i : Int) < (Os.length : Int) := by omega
    have hwi : IntKind.i64.wrap ((i : Int) + 1) = (i : Int) + 1 := by rw [IntKind.wrap_i64]; have := HOl.out; omega
    obtain ⟨Pz, hP⟩ : ∃ P, Os[i]? = some P := ⟨Os[i], List.getElem?_eq_getElem hlt6⟩
    obtain ⟨gv, ha, ci, -⟩ := owns_at (JM.out.below Bz.out).own hlt6 (by rw [List.getElem?_map, hP]; rfl)
    subst ha
    have HPm := Keep.mk ((JM.out.below Bz.out).old Pz (List.mem_of_getElem? hP))
    clear hP
    change wz.cell? ⟨gv, i, none⟩ = some (.pointer (some ⟨Pz.1.g, 0, none⟩)) at ci
    refine wp_seq_k fun K41 hK41 => rgn ?_
    refine VbT ?_
    refine WL.nil (hK41 _ _ ?_)
    refine wp_seq_k fun K42 hK42 => ?_
    refine wp_cond_true rfl ?_
    refine wp_skip ?_
    refine hK42 _ _ ?_
    refine wp_seq_k fun K43 hK43 => ?_
    refine wp_block ?_
    refine wp_seq_k fun K44 hK44 => rgn ?_
    refine VlS (.pointer (some ⟨gv, i, none⟩)) ?_
    refine VlS (.pointer (some ⟨Pz.1.g, 0, none⟩)) ?_
    refine VlS (.pointer (some ⟨Pz.1.g, 0, none⟩)) ?_
    refine WL.nil (hK44 _ _ ?_)
    refine wp_seq_k fun K45 hK45 => rgn ?_
    refine VlS (.pointer (some ⟨Pz.1.g, 0, none⟩)) ?_
    clear ci
    refine WL.callF (by kernel_rfl) 12 _ _ rfl Tryz.in12 #[.pointer (some ⟨Pz.1.g, 0, none⟩)] (by simp [Act.eval]) ?_
    refine (alike_any Pz.1 Pz.2 _ _ wz HPm.out.1 HPm.out.2.1 (Int.le_refl _)).mono ?_
    rintro e wy ⟨rfl, hb⟩
    refine ⟨_, rfl, ?_⟩
    have By : Keep (Below wr.heap.size wr wy) := ⟨Bz.out.trans (hb.mono Bz.out.size)⟩
    clear hb HPm
    simp only [Act.put, pqA, pqB, pqC]
    refine VbF ?_
    refine WL.nil (hK45 _ _ ?_)
    refine wp_cond_false rfl ?_
    refine wp_skip ?_
    refine hK43 _ _ ?_
    refine rgn ?_
    refine VlS (.int .i64 ((i : Int) + 1)) ?_
    refine VlS (.int .i64 ((i : Int) + 1)) ?_
    refine WL.nil ?_
    refine ⟨⟨i + 1, rfl, by omega, By.out⟩, ?_⟩
    simp only [intOf]; show Os.length - ((i : Int) + 1).toNat < Os.length - ((i : Int)).toNat; omega
   ·have hlt6' : ¬ (i : Int) < (Os.length : Int) := by omega
    refine wp_seq_k fun K46 hK46 => rgn ?_
    refine VbF ?_
    refine WL.nil (hK46 _ _ ?_)
    refine wp_seq_k fun K47 hK47 => ?_
    refine wp_cond_false rfl ?_
    refine wp_exit ?_
    refine hK39 _ _ ?_
    refine wp_seq_k fun K48 hK48 => rgn ?_
    refine VlS (.int .i64 r) ?_
    refine WL.callF (by kernel_rfl) 14 _ _ rfl Tryz.in14 #[.int .i64 r] (by simp [Act.eval]) ?_
    refine (dnew_any r wz).mono ?_
    rintro e w1 ⟨ps, pd, ph, rfl, k1, k2, k3, k4, -, -, k7⟩
    refine ⟨_, rfl, ?_⟩
    have D1 := Keep.mk k1
    have P1 := Keep.mk k2
    have Q1 := Keep.mk k3
    have E0 : Below w.heap.size w wz := JB.out.trans (Bz.out.mono JB.out.size)
    have E1 : Keep (Below w.heap.size w w1) := ⟨E0.trans (k7.mono E0.size)⟩
    have Lp : Keep (w.heap.size ≤ ps) := ⟨Nat.le_trans E0.size k4⟩
    clear k1 k2 k3 k4 k7 E0
    simp only [Act.put, pqA, pqB, pqC]
    refine VlS (.tuple #[.pointer (some ⟨pd, 0, none⟩), .pointer (some ⟨ph, 0, none⟩)]) ?_
    refine VlS (.pointer (some ⟨pd, 0, none⟩)) ?_
    refine VlS (.pointer (some ⟨ph, 0, none⟩)) ?_
    refine VlS (.pointer (some ⟨pd, 0, none⟩)) ?_
    refine VlS (.pointer (some ⟨ph, 0, none⟩)) ?_
    refine WL.nil (hK48 _ _ ?_)
    refine wp_seq_k fun K49 hK49 => rgn ?_
    refine VlS (.pointer (some ⟨pd, 0, none⟩)) ?_
    have hok : DOk (⟨[], max 0 r, 0, -1, false, 0⟩ : DV) 0 0 := new_ok r Hr.out
    have hap := pappend_any pd ps ⟨#[97]⟩ (.slice none 0 0) [] (.slice none 0 0) [] (⟨[], max 0 r, 0, -1, false, 0⟩ : DV) 0 0 w1 P1.out D1.out hok (by omega) (by omega) (by simp) (.inl ⟨rfl, rfl⟩) (fun k hk => by cases hk)
    rw [new_apC, new_apD] at hap
    refine WL.callF (by kernel_rfl) 15 _ _ rfl Tryz.in15 #[.pointer (some ⟨pd, 0, none⟩), .string ⟨#[97]⟩, .slice none 0 0] (by simp [Act.eval]) ?_
    refine (hap).mono ?_
    rintro e w2 ⟨rfl, vf2, cs2, k1, k2, k3⟩
    refine ⟨_, rfl, ?_⟩
    have D2 := Keep.mk k1
    have Q2 := Keep.mk (k2.blk Q1.out fun e => by rcases D1.out.sTyp e with h | h | h <;> (have := Q1.out.typ.one h; revert this; decide))
    have E2 : Keep (Below w.heap.size w w2) := ⟨E1.out.trans (k2.to_below (fun k hk e => by
     rcases e with e | e | ⟨_, _, e, _⟩
     ·have := Lp.out; omega
     ·cases e
     ·simp at e) E1.out.size)⟩
    clear k1 k2 k3 hok
    have q20 := Q2.out.c 0 (by rfl : (#[ptr ps] : Array Value)[0]? = some (ptr ps))
    simp only [Act.put, pqA, pqB, pqC]
    refine VlS (.int .i64 0) ?_
    refine WL.nil (hK49 _ _ ?_)
    refine wp_seq_k fun K50 hK50 => rgn ?_
    refine VlS (.int .i64 0) ?_
    refine VbT ?_
    refine VbT ?_
    refine VlS (.pointer (some ⟨ph, 0, none⟩)) ?_
    refine WL.callF (by kernel_rfl) 16 _ _ rfl Tryz.in16 #[.pointer (some ⟨ph, 0, none⟩)] (by simp [Act.eval]) ?_
    refine (acts_any ph ps 1 w2 q20 (D2.out.blk.c 5 rfl)).mono ?_
    rintro e w3 ⟨rfl, hw_⟩
    refine ⟨_, rfl, ?_⟩
    have hw_ := hw_.symm
    subst hw_
    simp only [Act.put, pqA, pqB, pqC]
    refine VbT ?_
    refine VbT ?_
    refine VbT ?_
    refine VlS (.pointer (some ⟨ph, 0, none⟩)) ?_
    refine WL.callF (by kernel_rfl) 13 _ _ rfl Tryz.in13 #[.pointer (some ⟨ph, 0, none⟩)] (by simp [Act.eval]) ?_
    refine (files_any ph ps vf2 cs2 _ w2 Q2.out D2.out (by rw [D2.out.fcs.len]; simp [nwD]) (fun f hf => by simp [nwD] at hf; subst hf; simp)).mono ?_
    rintro e w3 ⟨v3, ct3, rfl, k1, k2, -, -, k8⟩
    refine ⟨_, rfl, ?_⟩
    have E3 : Keep (Below w.heap.size w w3) := ⟨E2.out.trans (k8.mono E2.out.size)⟩
    clear k8
    obtain ⟨a3, c3, e3⟩ := k1.sl
    have hl3 : ct3.length = 1 := by rw [k2.len]; rfl
    rw [hl3] at e3
    subst e3
    clear k1 k2 hl3
    simp only [Act.put, pqA, pqB, pqC]
    refine VlS (.int .i64 1) ?_
    refine VbT ?_
    refine VbT ?_
    refine VbT ?_
    refine WL.nil (hK50 _ _ ?_)
    refine wp_ret ?_
    go_ret
    exact ⟨rfl, E3.out⟩
 ·skip
  refine wp_cond_true rfl ?_
  refine wp_seq_k fun K51 hK51 => rgn ?_
  refine VbT ?_
  refine WL.nil (hK51 _ _ ?_)
  refine wp_ret ?_
  go_ret
  exact ⟨rfl, B1.out⟩
end Go.Proofs.YteijjfeainamdaaGreatDoor
