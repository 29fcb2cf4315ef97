import Derived.Test.YtlggejehaonkcaaDoorA14
import Derived.Test.YtlggejehaonkcaaDoorA13
import Derived.Deep.RegionHeld3
import Derived.Deep.MidRow
import Derived.Lib.Small
import Derived.Lib.ConvBytes
namespace Go.Proofs.YtlggejehaonkcaaDoor
open Go.RowKit
set_option linter.unusedSimpArgs false
set_option linter.unusedVariables false

def zeB : List Int := [128, 0, 0, 0, 0, 0, 0, 0, 0, 0, 0, 0, 0, 0, 0, 0, 0, 0, 0, 0, 0, 0, 0, 0, 0, 0, 0, 0, 0, 0, 0, 0, 0, 0, 0, 0, 0, 0, 0, 0, 0, 0, 0, 0, 0, 0, 0, 0, 0, 0, 0, 0, 0, 0, 0, 0, 0, 0, 0, 0, 0, 0, 0, 0]
def zeW : List Int := [2147483648, 0, 0, 0, 0, 0, 0, 0, 0, 0, 0, 0, 0, 0, 0, 0, 2147483648, 0, 2117632, 0, 570427392, 0, 84448578, 2147483648, 1476919296, 4235264, 1451269, 1711282176, 3592562048, 337794312, 3594910044, 3374850048, 3287351444, 676112230, 109604294, 2742808854, 1904000662, 4274181962, 2813755136, 2165675682, 2561075048, 62000258, 1562224585, 2975250741, 3286092305, 614207615, 3297584367, 1575308336, 3741240933, 748767245, 1008022316, 30329261, 369937616, 195877528, 907775968, 3526495142, 43741191, 1967544444, 133517113, 4161330627, 3704256008, 1581412744, 1153231965, 996066459]
def zeR : List (List Int) := [[1779033703, 3144134277, 1013904242, 2773480762, 1359893119, 2600822924, 528734635, 1541459225],
 [2080933965, 1779033703, 3144134277, 1013904242, 415752866, 1359893119, 2600822924, 528734635],
 [2632279248, 2080933965, 1779033703, 3144134277, 536982102, 415752866, 1359893119, 2600822924],
 [3299628326, 2632279248, 2080933965, 1779033703, 1876632314, 536982102, 415752866, 1359893119],
 [1277422283, 3299628326, 2632279248, 2080933965, 808968629, 1876632314, 536982102, 415752866],
 [1130821424, 1277422283, 3299628326, 2632279248, 3889194014, 808968629, 1876632314, 536982102],
 [690895682, 1130821424, 1277422283, 3299628326, 1332035834, 3889194014, 808968629, 1876632314],
 [4028650896, 690895682, 1130821424, 1277422283, 2196627567, 1332035834, 3889194014, 808968629],
 [2060825014, 4028650896, 690895682, 1130821424, 1408847307, 2196627567, 1332035834, 3889194014],
 [4113392549, 2060825014, 4028650896, 690895682, 2058339864, 1408847307, 2196627567, 1332035834],
 [4025007953, 4113392549, 2060825014, 4028650896, 1392976521, 2058339864, 1408847307, 2196627567],
 [361478433, 4025007953, 4113392549, 2060825014, 3795207118, 1392976521, 2058339864, 1408847307],
 [4114828352, 361478433, 4025007953, 4113392549, 3621813394, 3795207118, 1392976521, 2058339864],
 [553833165, 4114828352, 361478433, 4025007953, 3455974994, 3621813394, 3795207118, 1392976521],
 [1170215847, 553833165, 4114828352, 361478433, 725774998, 3455974994, 3621813394, 3795207118],
 [3096116699, 1170215847, 553833165, 4114828352, 483372089, 725774998, 3455974994, 3621813394],
 [3019933109, 3096116699, 1170215847, 553833165, 1555621987, 483372089, 725774998, 3455974994],
 [1192056138, 3019933109, 3096116699, 1170215847, 1892956839, 1555621987, 483372089, 725774998],
 [3717831211, 1192056138, 3019933109, 3096116699, 1619825619, 1892956839, 1555621987, 483372089],
 [812095850, 3717831211, 1192056138, 3019933109, 3550010602, 1619825619, 1892956839, 1555621987],
 [172493064, 812095850, 3717831211, 1192056138, 2416781228, 3550010602, 1619825619, 1892956839],
 [1976037592, 172493064, 812095850, 3717831211, 966081741, 2416781228, 3550010602, 1619825619],
 [2577845017, 1976037592, 172493064, 812095850, 3263666206, 966081741, 2416781228, 3550010602],
 [1078820948, 2577845017, 1976037592, 172493064, 2976200464, 3263666206, 966081741, 2416781228],
 [2556161365, 1078820948, 2577845017, 1976037592, 741081741, 2976200464, 3263666206, 966081741],
 [2062996621, 2556161365, 1078820948, 2577845017, 4116679717, 741081741, 2976200464, 3263666206],
 [3317175470, 2062996621, 2556161365, 1078820948, 3850028020, 4116679717, 741081741, 2976200464],
 [747317945, 3317175470, 2062996621, 2556161365, 2677228163, 3850028020, 4116679717, 741081741],
 [1837942423, 747317945, 3317175470, 2062996621, 1726829818, 2677228163, 3850028020, 4116679717],
 [1690082844, 1837942423, 747317945, 3317175470, 2506713973, 1726829818, 2677228163, 3850028020],
 [1926471693, 1690082844, 1837942423, 747317945, 2957685293, 2506713973, 1726829818, 2677228163],
 [2696613087, 1926471693, 1690082844, 1837942423, 1447716390, 2957685293, 2506713973, 1726829818],
 [300352095, 2696613087, 1926471693, 1690082844, 3151463532, 1447716390, 2957685293, 2506713973],
 [3817927606, 300352095, 2696613087, 1926471693, 3436338571, 3151463532, 1447716390, 2957685293],
 [2705438357, 3817927606, 300352095, 2696613087, 197416927, 3436338571, 3151463532, 1447716390],
 [1151435175, 2705438357, 3817927606, 300352095, 1769188034, 197416927, 3436338571, 3151463532],
 [1679812728, 1151435175, 2705438357, 3817927606, 980442793, 1769188034, 197416927, 3436338571],
 [2694206301, 1679812728, 1151435175, 2705438357, 4206914285, 980442793, 1769188034, 197416927],
 [1457773646, 2694206301, 1679812728, 1151435175, 3892832895, 4206914285, 980442793, 1769188034],
 [2656625711, 1457773646, 2694206301, 1679812728, 2242319396, 3892832895, 4206914285, 980442793],
 [1234768305, 2656625711, 1457773646, 2694206301, 1902882853, 2242319396, 3892832895, 4206914285],
 [4270245939, 1234768305, 2656625711, 1457773646, 2224585183, 1902882853, 2242319396, 3892832895],
 [580450446, 4270245939, 1234768305, 2656625711, 4123364073, 2224585183, 1902882853, 2242319396],
 [3686090155, 580450446, 4270245939, 1234768305, 3762306745, 4123364073, 2224585183, 1902882853],
 [3907209042, 3686090155, 580450446, 4270245939, 692219050, 3762306745, 4123364073, 2224585183],
 [2752082644, 3907209042, 3686090155, 580450446, 2855016464, 692219050, 3762306745, 4123364073],
 [855262251, 2752082644, 3907209042, 3686090155, 3531982457, 2855016464, 692219050, 3762306745],
 [1419259244, 855262251, 2752082644, 3907209042, 2322236082, 3531982457, 2855016464, 692219050],
 [911881421, 1419259244, 855262251, 2752082644, 3417569515, 2322236082, 3531982457, 2855016464],
 [1655188062, 911881421, 1419259244, 855262251, 1286303114, 3417569515, 2322236082, 3531982457],
 [2543384045, 1655188062, 911881421, 1419259244, 3909789552, 1286303114, 3417569515, 2322236082],
 [3244542753, 2543384045, 1655188062, 911881421, 906398686, 3909789552, 1286303114, 3417569515],
 [3579709122, 3244542753, 2543384045, 1655188062, 2710884687, 906398686, 3909789552, 1286303114],
 [2981272720, 3579709122, 3244542753, 2543384045, 1134943992, 2710884687, 906398686, 3909789552],
 [974034039, 2981272720, 3579709122, 3244542753, 4254700398, 1134943992, 2710884687, 906398686],
 [749689034, 974034039, 2981272720, 3579709122, 3850954136, 4254700398, 1134943992, 2710884687],
 [23298068, 749689034, 974034039, 2981272720, 2918796810, 3850954136, 4254700398, 1134943992],
 [2126991890, 23298068, 749689034, 974034039, 2035393328, 2918796810, 3850954136, 4254700398],
 [3891021244, 2126991890, 23298068, 749689034, 3802734300, 2035393328, 2918796810, 3850954136],
 [3911429062, 3891021244, 2126991890, 23298068, 148956906, 3802734300, 2035393328, 2918796810],
 [71572494, 3911429062, 3891021244, 2126991890, 2867830852, 148956906, 3802734300, 2035393328],
 [4095722474, 71572494, 3911429062, 3891021244, 477227836, 2867830852, 148956906, 3802734300],
 [1586299222, 4095722474, 71572494, 3911429062, 2232532848, 477227836, 2867830852, 148956906],
 [3717492111, 1586299222, 4095722474, 71572494, 3382061760, 2232532848, 477227836, 2867830852],
 [2040978907, 3717492111, 1586299222, 4095722474, 3600805733, 3382061760, 2232532848, 477227836]]
def zeO : List Int := [3820012610, 2566659092, 2600203464, 2574235940, 665731556, 1687917388, 2761267483, 2018687061]
theorem zeT : STab abS zeB zeW zeR zeO where
 w := by decide +kernel
 r := by decide +kernel
 r0 := by decide +kernel
 o := by decide +kernel
theorem ze_p : ∀ i : Fin 64, piece0 [] i.val = zeB.getD i.val 0 := by decide +kernel
theorem ze_l : layUp (fun i => zeO.getD i 0) 8 0 = 227 := by decide +kernel
theorem ze_sha : shaP [] 0 = 227 := by
 rw [sha_one [] (by decide)]
 have h1 := zeT.mix beginF (fun i hi => ab_b ⟨i, hi⟩) (piece0 []) (fun i hi => ze_p ⟨i, hi⟩)
 rw [layUp_like (d := fun i => zeO.getD i 0) h1 8 (Nat.le_refl _)]
 exact ze_l
def onB : List Int := [1, 128, 0, 0, 0, 0, 0, 0, 0, 0, 0, 0, 0, 0, 0, 0, 0, 0, 0, 0, 0, 0, 0, 0, 0, 0, 0, 0, 0, 0, 0, 0, 0, 0, 0, 0, 0, 0, 0, 0, 0, 0, 0, 0, 0, 0, 0, 0, 0, 0, 0, 0, 0, 0, 0, 0, 0, 0, 0, 0, 0, 0, 0, 8]
def onW : List Int := [25165824, 0, 0, 0, 0, 0, 0, 0, 0, 0, 0, 0, 0, 0, 0, 8, 25165824, 327680, 24816, 536871234, 1013317656, 8475648, 3221225543, 2181046277, 2103296, 337859128, 788531540, 4291035225, 101492322, 1075327329, 1509875956, 517973611, 35050673, 1329623440, 815992431, 350791954, 3095769095, 868259775, 1615992240, 3812607915, 1039719457, 264875432, 1704325588, 2298589401, 1198686061, 3933287549, 3926264989, 4040101505, 249227546, 930235674, 4030918814, 987692422, 659028545, 2833977456, 231606939, 1325650355, 1947556659, 1796553111, 1968969842, 971588495, 722301275, 665515964, 770577929, 428167832]
def onR : List (List Int) := [[1779033703, 3144134277, 1013904242, 2773480762, 1359893119, 2600822924, 528734635, 1541459225],
 [4253583437, 1779033703, 3144134277, 1013904242, 2588402338, 1359893119, 2600822924, 528734635],
 [3116570251, 4253583437, 1779033703, 3144134277, 3690684951, 2588402338, 1359893119, 2600822924],
 [456399738, 3116570251, 4253583437, 1779033703, 2258312787, 3690684951, 2588402338, 1359893119],
 [3866753293, 456399738, 3116570251, 4253583437, 160665111, 2258312787, 3690684951, 2588402338],
 [253829117, 3866753293, 456399738, 3116570251, 4213379882, 160665111, 2258312787, 3690684951],
 [3931301366, 253829117, 3866753293, 456399738, 1552225849, 4213379882, 160665111, 2258312787],
 [2682716601, 3931301366, 253829117, 3866753293, 3992252147, 1552225849, 4213379882, 160665111],
 [2223699995, 2682716601, 3931301366, 253829117, 3849196034, 3992252147, 1552225849, 4213379882],
 [1722920691, 2223699995, 2682716601, 3931301366, 3706779890, 3849196034, 3992252147, 1552225849],
 [4042319925, 1722920691, 2223699995, 2682716601, 3960705477, 3706779890, 3849196034, 3992252147],
 [3914107058, 4042319925, 1722920691, 2223699995, 2790209519, 3960705477, 3706779890, 3849196034],
 [1258010916, 3914107058, 4042319925, 1722920691, 548365471, 2790209519, 3960705477, 3706779890],
 [320128278, 1258010916, 3914107058, 4042319925, 1532338966, 548365471, 2790209519, 3960705477],
 [3979848380, 320128278, 1258010916, 3914107058, 2473203724, 1532338966, 548365471, 2790209519],
 [4160520305, 3979848380, 320128278, 1258010916, 3859869513, 2473203724, 1532338966, 548365471],
 [3356056551, 4160520305, 3979848380, 320128278, 2405383344, 3859869513, 2473203724, 1532338966],
 [3370458301, 3356056551, 4160520305, 3979848380, 3865627979, 2405383344, 3859869513, 2473203724],
 [2291952010, 3370458301, 3356056551, 4160520305, 2839610413, 3865627979, 2405383344, 3859869513],
 [2552640462, 2291952010, 3370458301, 3356056551, 666887661, 2839610413, 3865627979, 2405383344],
 [3033308181, 2552640462, 2291952010, 3370458301, 1400850124, 666887661, 2839610413, 3865627979],
 [2883011801, 3033308181, 2552640462, 2291952010, 474042454, 1400850124, 666887661, 2839610413],
 [1682138921, 2883011801, 3033308181, 2552640462, 586011315, 474042454, 1400850124, 666887661],
 [2488875560, 1682138921, 2883011801, 3033308181, 435211165, 586011315, 474042454, 1400850124],
 [2248780404, 2488875560, 1682138921, 2883011801, 97030734, 435211165, 586011315, 474042454],
 [1190980526, 2248780404, 2488875560, 1682138921, 435912087, 97030734, 435211165, 586011315],
 [3120755902, 1190980526, 2248780404, 2488875560, 1485372836, 435912087, 97030734, 435211165],
 [4278509530, 3120755902, 1190980526, 2248780404, 212703092, 1485372836, 435912087, 97030734],
 [2544389608, 4278509530, 3120755902, 1190980526, 3443741810, 212703092, 1485372836, 435912087],
 [2463265949, 2544389608, 4278509530, 3120755902, 792032747, 3443741810, 212703092, 1485372836],
 [675363207, 2463265949, 2544389608, 4278509530, 3241759342, 792032747, 3443741810, 212703092],
 [2062529420, 675363207, 2463265949, 2544389608, 3831825680, 3241759342, 792032747, 3443741810],
 [359031287, 2062529420, 675363207, 2463265949, 909472733, 3831825680, 3241759342, 792032747],
 [3754325231, 359031287, 2062529420, 675363207, 3872049386, 909472733, 3831825680, 3241759342],
 [3785425021, 3754325231, 359031287, 2062529420, 1621027742, 3872049386, 909472733, 3831825680],
 [4085849369, 3785425021, 3754325231, 359031287, 2567681301, 1621027742, 3872049386, 909472733],
 [436824747, 4085849369, 3785425021, 3754325231, 2341796709, 2567681301, 1621027742, 3872049386],
 [3359727709, 436824747, 4085849369, 3785425021, 4262373002, 2341796709, 2567681301, 1621027742],
 [3813463220, 3359727709, 436824747, 4085849369, 1969553371, 4262373002, 2341796709, 2567681301],
 [384461566, 3813463220, 3359727709, 436824747, 2449681044, 1969553371, 4262373002, 2341796709],
 [3167542120, 384461566, 3813463220, 3359727709, 2561412960, 2449681044, 1969553371, 4262373002],
 [2321991970, 3167542120, 384461566, 3813463220, 3569343540, 2561412960, 2449681044, 1969553371],
 [3652447248, 2321991970, 3167542120, 384461566, 2909309443, 3569343540, 2561412960, 2449681044],
 [2069332804, 3652447248, 2321991970, 3167542120, 1610657573, 2909309443, 3569343540, 2561412960],
 [1170763910, 2069332804, 3652447248, 2321991970, 3424802670, 1610657573, 2909309443, 3569343540],
 [623286473, 1170763910, 2069332804, 3652447248, 557274738, 3424802670, 1610657573, 2909309443],
 [3333145348, 623286473, 1170763910, 2069332804, 632648382, 557274738, 3424802670, 1610657573],
 [1768107064, 3333145348, 623286473, 1170763910, 412026995, 632648382, 557274738, 3424802670],
 [3504691863, 1768107064, 3333145348, 623286473, 3126780259, 412026995, 632648382, 557274738],
 [1814392325, 3504691863, 1768107064, 3333145348, 444280302, 3126780259, 412026995, 632648382],
 [4118361953, 1814392325, 3504691863, 1768107064, 2502253878, 444280302, 3126780259, 412026995],
 [1873848354, 4118361953, 1814392325, 3504691863, 3257005201, 2502253878, 444280302, 3126780259],
 [231051389, 1873848354, 4118361953, 1814392325, 1494867648, 3257005201, 2502253878, 444280302],
 [3645889897, 231051389, 1873848354, 4118361953, 11181321, 1494867648, 3257005201, 2502253878],
 [260932305, 3645889897, 231051389, 1873848354, 349734792, 11181321, 1494867648, 3257005201],
 [2740374822, 260932305, 3645889897, 231051389, 2715388905, 349734792, 11181321, 1494867648],
 [1860264591, 2740374822, 260932305, 3645889897, 1451422265, 2715388905, 349734792, 11181321],
 [1195417258, 1860264591, 2740374822, 260932305, 2793514873, 1451422265, 2715388905, 349734792],
 [404929826, 1195417258, 1860264591, 2740374822, 1500953746, 2793514873, 1451422265, 2715388905],
 [926770328, 404929826, 1195417258, 1860264591, 2789641431, 1500953746, 2793514873, 1451422265],
 [4175682934, 926770328, 404929826, 1195417258, 1946682186, 2789641431, 1500953746, 2793514873],
 [3884106409, 4175682934, 926770328, 404929826, 463763585, 1946682186, 2789641431, 1500953746],
 [4285479753, 3884106409, 4175682934, 926770328, 3091794065, 463763585, 1946682186, 2789641431],
 [2027791936, 4285479753, 3884106409, 4175682934, 2529041689, 3091794065, 463763585, 1946682186],
 [3790285768, 2027791936, 4285479753, 3884106409, 2152839255, 2529041689, 3091794065, 463763585]]
def onO : List Int := [1274352175, 876958917, 1004416699, 2362619875, 3512732374, 834897317, 3620528700, 2005222810]
theorem onT : STab abS onB onW onR onO where
 w := by decide +kernel
 r := by decide +kernel
 r0 := by decide +kernel
 o := by decide +kernel
theorem on_p : ∀ i : Fin 64, piece0 [1] i.val = onB.getD i.val 0 := by decide +kernel
theorem on_l : layUp (fun i => onO.getD i 0) 8 0 = 75 := by decide +kernel
theorem on_sha : shaP [1] 0 = 75 := by
 rw [sha_one [1] (by decide)]
 have h1 := onT.mix beginF (fun i hi => ab_b ⟨i, hi⟩) (piece0 [1]) (fun i hi => on_p ⟨i, hi⟩)
 rw [layUp_like (d := fun i => onO.getD i 0) h1 8 (Nat.le_refl _)]
 exact on_l
theorem kO_unlike : kO [] ≠ kO [1] := fun e => by
 have h := congrArg (fun l : List Int => l.getD 0 0) e
 simp only [kO] at h
 rw [hl_get 32 _ 0 (by omega), hl_get 32 _ 0 (by omega), ze_sha, on_sha] at h
 cases h
theorem Tryd.in4 (w : World) (vs : Array Value) : (callFunc 4 vs).run Tryd.prog w = .ok (.enter 4 vs) w := by kernel_rfl
set_option maxRecDepth 8000 in
theorem japp_zero (g d bc : Nat) (ba : Option Addr) (vp : Value) (pr sz : Int) (la : Bool) (w : World) (hJ : Blk w g 81 (jA d vp pr sz la false)) : Calls Tryd.prog 20 #[ptr g, .slice ba 0 bc] w fun e w' => e = .returned (.int .i64 1) ∧ w' = w := by
 have HJ := Keep.mk hJ
 clear hJ
 go_enter Tryd.func20, Tryd.ntmps20
 have c5 := HJ.out.c 5 (by rfl : (jA d vp pr sz la false)[5]? = some (.bool false))
 refine wp_seq_k fun K1 hK1 => rgn ?_
 refine VlS (.int .i64 0) ?_
 refine WL.nil (hK1 _ _ ?_)
 refine wp_seq_k fun K2 hK2 => ?_
 refine wp_block ?_
 refine wp_seq_k fun K3 hK3 => rgn ?_
 refine VlS (.pointer (some ⟨g, 0, none⟩)) ?_
 refine VlS (.pointer (some ⟨g, 0, none⟩)) ?_
 refine VlS (.pointer (some ⟨g, 5, none⟩)) ?_
 refine VlS (.bool false) ?_
 refine VlS (.bool false) ?_
 refine WL.nil (hK3 _ _ ?_)
 refine wp_cond_false rfl ?_
 refine wp_seq_k fun K4 hK4 => rgn ?_
 refine VlS (.slice ba 0 bc) ?_
 refine VlS (.int .i64 0) ?_
 refine VlS (.bool true) ?_
 refine VlS (.bool true) ?_
 refine WL.nil (hK4 _ _ ?_)
 refine wp_cond_true rfl ?_
 refine wp_seq_k fun K5 hK5 => rgn ?_
 refine VlS (.int .i64 1) ?_
 refine WL.nil (hK5 _ _ ?_)
 refine wp_ret ?_
 go_ret
 exact ⟨rfl, rfl⟩

def Dnew (r : Int) : DV := ⟨[], r, 0, -1, false, 0⟩
theorem lk_new (r : Int) (n : ByteArray) : lk (Dnew r).fs n = none := rfl
theorem openV_new (r : Int) : openV (Fk (Dnew r).fs) = JV.nil := openV_zero (Fk_none (lk_new r _))
theorem dok_new (r : Int) : DOk (Dnew r) := ⟨List.Pairwise.nil, Nat.zero_le _, fun f hf => (by cases hf), fun f hf => (by cases hf), rfl, (by show (0 : Int) ≤ 1000000000; omega), Int.le_refl _, (by show (-1 : Int) ≤ -1 ∧ (-1 : Int) ≤ 9223372036854775807; omega)⟩
theorem mpost_new {r : Int} {D' : DV} (h : MPost (Dnew r) D' 0 (openV (Fk (Dnew r).fs))) : D' = Dnew r := by
 rw [openV_new] at h
 have h1 : D'.fs = [] := by
  cases hf : D'.fs with
  | nil => rfl
  | cons f l =>
   obtain ⟨g, hg, _⟩ := h.nms f (by rw [hf]; simp)
   cases hg
 have h2 : D'.used = 0 := by rw [h.ok.used, h1]; rfl
 have h3 : D'.fuse = -1 := (h.fuse rfl).2
 have h4 : D'.acts = 0 := by
  have := h.idle (fun j _ _ => lk_new r _) rfl rfl
  rw [this]
  rfl
 have h5 : D'.out = false := by
  rcases h.ans with ⟨_, h5, _⟩ | ⟨h5, _⟩
  ·exact h5
  ·cases h5
 have h6 : D'.room = r := h.room
 obtain ⟨a, b, c, d, e, f⟩ := D'
 simp only at h1 h2 h3 h4 h5 h6
 subst h1 h2 h3 h4 h5 h6
 rfl
theorem sd_begun {w2 : World} {s g m d p a B C : Nat} {vl : Value} {L : List BX} {D : DV} {V : JV} {N U : Nat → Prop} (hA : StoAt w2 s g m vl L false) (hL : L.map (·.1) = V.ps) (hV : V.ps = []) (hD : DskN w2 d p D fun k => (N k ∨ B ≤ k) ∧ k < C) (hJ : JAt w2 g d V false false fun k => a ≤ k ∧ k < B) (haB : a ≤ B) (hB : B ≤ C) (hCs : C ≤ s) (hCm : C ≤ m) (hCv : ∀ k, vl.ownBlock = some k → C ≤ k) (hU : ∀ k, N k ∨ a ≤ k → k < w2.heap.size → U k) (hC : C ≤ w2.heap.size) : SD w2 s g m d p D V false U := by
 obtain ⟨h1, vf, cs, h2, h3⟩ := hD
 obtain ⟨j1, vp, j2, j3, j4⟩ := hJ
 have hL0 : L = [] := by rw [hV] at hL; exact List.map_eq_nil_iff.1 hL
 subst hL0
 have hst : ∀ k, StS s m vl [] k → C ≤ k := fun k hk => by
  rcases hk with rfl | rfl | hk | ⟨x, hx, _⟩
  ·exact hCs
  ·exact hCm
  ·exact hCv k hk
  ·cases hx
 refine ⟨vl, [], fun k => (N k ∨ a ≤ k) ∧ k < C, hA, hL, ⟨h1, vf, cs, vp, h2, j2, j3, fun k hk => ?_⟩, fun k hk => ⟨hU k hk.1 (by have := hk.2; omega), fun e => by have := hst k e; have := hk.2; omega⟩, fun k hk => hU k (.inr (by have := hst k hk; omega)) (hA.lt hk), by rw [hV]; exact DisK.nil⟩
 rcases hk with hk | rfl | hk
 ·have := h3 k hk
  refine ⟨?_, this.2⟩
  rcases this.1 with h | h
  ·exact .inl h
  ·exact .inr (by omega)
 ·exact ⟨.inr j1.1, by have := j1.2; omega⟩
 ·have := j4 k hk
  exact ⟨.inr this.1, by omega⟩
def J1 (_ : DV) (V : JV) (_ : Bool) : Prop := V.ps = [[1]]
def JP1 (D : DV) (V : JV) (_ : Bool) : Prop := V.ps = [[1]] ∧ D.acts = 1
def V1 : JV := ⟨[[1]], [(0, 0)], 0, 17, false⟩
theorem app_first (g d p b : Nat) : AppOk JP1 (fun _ => False) (fun x => x = 1) (Dnew 1000) JV.nil false [1] (.slice (some ⟨b, 0, none⟩) 1 1) g d p := by
 intro N w hT hJ hNl hNd hN0 hR hRn
 obtain ⟨h1, vf, cs, vp, h2, h3, h4, h5⟩ := hJ
 have hcs : cs = [] := List.eq_nil_of_length_eq_zero h2.fcs.len
 have htp : ∀ k, vp.ownBlock = some k → k ≠ p := fun k hk e => by
  subst e
  exact absurd ((h4.typ hk).one h2.blk.typ) (by decide)
 refine (japp_none g d p 0 _ vf vp [1] cs (Dnew 1000) [] 0 false w hT h3 h1 h2 h4 htp (by simp) rfl rfl (by rw [hcs]; simp) (by simp) (by simp [Dnew]) (by simp [Dnew]) (by simp [Dnew]) hR).mono ?_
 rintro e w' ⟨rfl, vp', vf', cs', a1, a2, a3, a4, a5, a6⟩
 have hg : Grown w w' N := a4.mono fun k _ e => by
  rcases e with rfl | rfl | e
  ·exact h5 _ (.inl (.inl rfl))
  ·exact h5 _ (.inr (.inl rfl))
  ·exact h5 _ (.inr (.inr e))
 have hlt : ∀ k, (DskS p vf' cs' k ∨ k = g ∨ vp'.ownBlock = some k) → k < w'.heap.size := fun k hk => by
  rcases hk with hk | rfl | hk
  ·exact a3.sLt hk
  ·exact a1.lt
  ·exact (World.ownsRow.lt a2 k hk).2
 refine ⟨0, (Dnew 1000).appNew 0 (nmS 0) (hl 16 (hdF [1]) ++ [1]), V1, true, false, rfl, ⟨hg.blk h1 hNd, vf', cs', vp', a3, a1, a2, fun k hk => ⟨?_, hlt k hk⟩⟩, hg, ?_, .inl ⟨rfl, rfl, rfl, ⟨by decide, by decide⟩, rfl, rfl⟩⟩
 ·rcases hk with hk | rfl | hk
  ·rcases a5 k hk with h | h
   ·exact .inl (h5 k (.inl h))
   ·exact .inr h
  ·exact .inl (h5 _ (.inr (.inl rfl)))
  ·rcases a6 k hk with h | h
   ·exact .inl (h5 k (.inr (.inr h)))
   ·exact .inr h
 ·show (0 : Int) ≤ 0 + 1 ∧ (0 : Int) + 1 ≤ 0 + 300
  omega
theorem app_none (g d p : Nat) (D : DV) (V : JV) (la : Bool) (hP : JP1 D V la) : AppOk JP1 (fun _ => False) (fun x => x = 1) D V la [] (.slice none 0 0) g d p := by
 intro N w hT hJ hNl hNd hN0 hR hRn
 have hJ' := hJ
 obtain ⟨h1, vf, cs, vp, h2, h3, h4, h5⟩ := hJ
 refine (japp_zero g d 0 none vp V.pr V.sz la w h3).mono ?_
 rintro e w' ⟨rfl, hw⟩
 obtain rfl : w = w' := hw.symm
 exact ⟨1, D, V, la, false, rfl, hJ'.mono fun k hk => ⟨.inl hk, hNl k hk⟩, Grown.refl _ _, by omega, .inr (.inr ⟨rfl, rfl, rfl, hP⟩)⟩
theorem bs1 (w : World) : (Instr.buildSlice 41 1 #[(0, .int .u8 1)]).run Tryd.prog w = .ok (.slice (some ⟨w.heap.size, 0, none⟩) 1 1) (w.alloc (.cells #[.int .u8 1] 5)) := by kernel_rfl
theorem SD.acts {w : World} {s g m d p : Nat} {D : DV} {V : JV} {la : Bool} {U : Nat → Prop} (h : SD w s g m d p D V la U) : w.cell? ⟨p, 5, none⟩ = some (.int .i64 D.acts) := by
 obtain ⟨_, _, _, _, _, ⟨_, vf, cs, vp, h2, _⟩, _⟩ := h
 exact h2.blk.c 5 rfl
set_option maxRecDepth 8000 in
set_option maxHeartbeats 2000000 in
theorem bfixed_any (w : World) (hT : Tab w) (hZ : 0 < w.heap.size) : Calls Tryd.prog 4 #[] w fun e w' => e = .returned (.bool true) ∧ Below w.heap.size w w' := by
 have HT := Keep.mk hT
 have HZ := Keep.mk hZ
 clear hT hZ
 go_enter Tryd.func4, Tryd.ntmps4
 refine wp_seq_k fun K1 hK1 => rgn ?_
 refine VlS (.bool false) ?_
 refine WL.nil (hK1 _ _ ?_)
 refine wp_seq_k fun K2 hK2 => rgn ?_
 refine WL.callF (by kernel_rfl) 5 _ _ rfl Tryd.in5 #[.int .i64 1000] (by simp [Act.eval]) ?_
 refine (dnew_any 1000 w).mono ?_
 rintro e w1 ⟨p, d, h, rfl, h1, h2, h3, h4, h5, h6, h7⟩
 refine ⟨_, rfl, ?_⟩
 have E1 : Keep (DskAt w1 p (.slice none 0 0) [] (Dnew 1000)) := ⟨h1⟩
 have P1 := Keep.mk h2
 have H1 := Keep.mk h3
 have L1 : Keep (w.heap.size ≤ p ∧ w.heap.size ≤ d ∧ w.heap.size ≤ h) := ⟨h4, h5, h6⟩
 have B1 := Keep.mk h7
 clear h1 h2 h3 h4 h5 h6 h7
 simp only [Act.put, pqA, pqB, pqC]
 refine VlS (.tuple #[.pointer (some ⟨d, 0, none⟩), .pointer (some ⟨h, 0, none⟩)]) ?_
 refine VlS (.pointer (some ⟨d, 0, none⟩)) ?_
 refine VlS (.pointer (some ⟨h, 0, none⟩)) ?_
 refine VlS (.pointer (some ⟨d, 0, none⟩)) ?_
 refine VlS (.pointer (some ⟨h, 0, none⟩)) ?_
 refine WL.nil (hK2 _ _ ?_)
 refine wp_seq_k fun K3 hK3 => rgn ?_
 refine VlS (.pointer (some ⟨d, 0, none⟩)) ?_
 refine WL.callF (by kernel_rfl) 6 _ _ rfl Tryd.in6 #[ptr d] (by simp [Act.eval]) ?_
 have hdp : d ≠ p := fun e => absurd (P1.out.typ.one (e ▸ E1.out.blk.typ)) (by decide)
 have hhp : h ≠ p := fun e => absurd (H1.out.typ.one (e ▸ E1.out.blk.typ)) (by decide)
 refine (bopen_any d p (Dnew 1000) (fun k => k = p) w1 (HT.out.below B1.out HZ.out) ⟨P1.out, _, _, E1.out, fun k hk => ?_⟩ (fun e => by have := L1.out.1; have := HZ.out; omega) hdp (fun k hk => hk ▸ E1.out.blk.lt) (dok_new _) rfl (by show (0 : Int) ≤ 4611686018427380000; omega) rfl (by rw [openV_new]; exact DisK.nil) (by rw [openV_new]; exact Nat.zero_le _)).mono ?_
 ·rcases hk with hk | hk | ⟨i, y, hy, _⟩
  ·exact hk
  ·simp [Value.ownBlock] at hk
  ·simp at hy
 rintro e w2 ⟨s, g, m, vl, L, D', B, C, rfl, a1, a2, a3, a4, a5, a6, a7, a8, a9, a10, a11, a12, a13⟩
 have hD' := mpost_new a1
 subst hD'
 rw [openV_new] at a3 a8
 obtain ⟨U, hU⟩ : ∃ U : Nat → Prop, Keep (U = fun k => w.heap.size ≤ k ∧ k < w2.heap.size ∧ k ≠ d ∧ k ≠ h) := ⟨_, ⟨rfl⟩⟩
 have hpl := E1.out.blk.lt
 have hdl := P1.out.lt
 have hhl := H1.out.lt
 have hs1 := B1.out.size
 have S2 : Keep (SD w2 s g m d p (Dnew 1000) JV.nil false U) := ⟨sd_begun a2 a3 rfl a7 a8 a4 a5 a9 a10 a11 (fun k hk hl => by
  rw [hU.out]
  rcases hk with rfl | hk
  ·exact ⟨L1.out.1, hl, fun e => hdp e.symm, fun e => hhp e.symm⟩
  ·exact ⟨by omega, hl, by omega, by omega⟩) a6⟩
 have Hd2 : Keep (d < w2.heap.size) := ⟨by have := a13.size; omega⟩
 have H2 : Keep (Blk w2 h 55 #[ptr p]) := ⟨a13.blk H1.out hhp⟩
 have U2 : Keep ((∀ k, U k → w.heap.size ≤ k ∧ k < w2.heap.size) ∧ ¬ U d ∧ ¬ U h) := ⟨by rw [hU.out]; exact ⟨fun k hk => ⟨hk.1, hk.2.1⟩, fun e => e.2.2.1 rfl, fun e => e.2.2.2 rfl⟩⟩
 have B2 : Keep (Below w.heap.size w w2) := ⟨B1.out.trans (a13.to_below (fun k hk e => by have := L1.out.1; omega) hs1)⟩
 clear a1 a2 a3 a4 a5 a6 a7 a8 a9 a10 a11 a12 a13 hU hpl hdl hhl hs1 hdp hhp E1 P1 H1 B1
 refine ⟨_, rfl, ?_⟩
 simp only [Act.put, pqA, pqB, pqC]
 refine VlS (.tuple #[.pointer (some ⟨s, 0, none⟩), .int .i64 0]) ?_
 refine VlS (.pointer (some ⟨s, 0, none⟩)) ?_
 refine VlS (.int .i64 0) ?_
 refine VlS (.pointer (some ⟨s, 0, none⟩)) ?_
 refine VlS (.int .i64 0) ?_
 refine WL.nil (hK3 _ _ ?_)
 refine wp_seq_k fun K4 hK4 => ?_
 refine wp_seq_k fun K5 hK5 => rgn ?_
 refine VlS (.pointer (some ⟨s, 0, none⟩)) ?_
 refine VlS (.bool false) ?_
 refine VlS (.bool false) ?_
 refine VlS (.int .i64 0) ?_
 refine VlS (.bool false) ?_
 refine VlS (.bool false) ?_
 refine WL.nil (hK5 _ _ ?_)
 refine wp_cond_false rfl ?_
 refine wp_skip ?_
 refine hK4 _ _ ?_
 refine wp_seq_k fun K6 hK6 => rgn ?_
 refine VlS (.pointer (some ⟨s, 0, none⟩)) ?_
 refine WL.bs (by kernel_rfl) 41 1 _ rfl #[(0, .int .u8 1)] (by simp [Act.eval]) _ _ (bs1 w2) ?_
 have hbx := below_new w2 (.cells #[.int .u8 1] 5)
 have R3 : Keep (RowAt (w2.alloc (.cells #[.int .u8 1] 5)) (.slice (some ⟨w2.heap.size, 0, none⟩) 1 1) [1]) := ⟨row_one w2 1⟩
 have S3 := Keep.mk (S2.out.below hbx)
 have H3 := Keep.mk (H2.out.below hbx H2.out.lt)
 have B3 : Keep (Below w.heap.size w (w2.alloc (.cells #[.int .u8 1] 5))) := ⟨B2.out.trans (hbx.mono B2.out.size)⟩
 have Z3 : Keep (w2.heap.size ≤ (w2.alloc (.cells #[.int .u8 1] 5)).heap.size) := ⟨hbx.size⟩
 clear hbx
 generalize w2.alloc (.cells #[.int .u8 1] 5) = w3 at *
 obtain ⟨b3, hb3⟩ : ∃ z, Keep (z = w2.heap.size) := ⟨_, ⟨rfl⟩⟩
 rw [← hb3.out] at R3 ⊢
 simp only [Act.put, pqA, pqB, pqC]
 refine WL.callF (by kernel_rfl) 9 _ _ rfl Tryd.in9 #[ptr s, .slice (some ⟨b3, 0, none⟩) 1 1] (by simp [Act.eval]) ?_
 refine (put_new JP1 (fun _ => False) (fun x => x = 1) s g m d p _ [1] (Dnew 1000) JV.nil false U w3 (HT.out.below B3.out HZ.out) S3.out (fun k hk => by have := (U2.out.1 k hk).2; have := Z3.out; omega) (fun e => by have := (U2.out.1 0 e).1; have := HZ.out; omega) U2.out.2.1 (by simp [JV.nil]) R3.out (fun _ k hk e => by have := (U2.out.1 k e).2; have := hb3.out; simp [Value.ownBlock] at hk; omega) (by simp) (fun x hx => by omega) (app_first g d p b3) rfl).mono ?_
 rintro e w4 ⟨c4, ee, rfl, g1, g2⟩
 rcases g2 with ⟨g3, D4, V4, la4, g4, g5, g6, g7, g8⟩ | ⟨_, _, _, _, g3, _⟩
 case inr => exact g3.elim
 have he : ee = 0 := by
  rcases g7 with ⟨g7, _⟩ | ⟨g7, _⟩
  ·rw [g5.1] at g7; cases g7
  ·exact g7
 subst he
 have S4 := Keep.mk g4
 have J4 := Keep.mk g5
 have G4 := Keep.mk g1
 have H4 : Keep (Blk w4 h 55 #[ptr p]) := ⟨g1.blk H3.out U2.out.2.2⟩
 have Hd3 : Keep (d < w3.heap.size) := ⟨by have := Hd2.out; have := Z3.out; omega⟩
 have U4 : Keep ((∀ k, JN2 U w3.heap.size w4.heap.size k → w.heap.size ≤ k ∧ k < w4.heap.size) ∧ ¬ JN2 U w3.heap.size w4.heap.size d ∧ ¬ JN2 U w3.heap.size w4.heap.size h) := ⟨fun k hk => ⟨by rcases hk.1 with e | e; exact (U2.out.1 k e).1; have := B3.out.size; omega, hk.2⟩, fun e => by rcases e.1 with e | e; exact U2.out.2.1 e; have := Hd3.out; omega, fun e => by rcases e.1 with e | e; exact U2.out.2.2 e; have := H3.out.lt; omega⟩
 have B4 : Keep (Below w.heap.size w w4) := ⟨B3.out.trans (g1.to_below (fun k hk e => by have := (U2.out.1 k e).1; omega) B3.out.size)⟩
 clear g1 g4 g5 g6 g7 g8
 generalize JN2 U w3.heap.size w4.heap.size = U' at *
 refine ⟨_, rfl, ?_⟩
 simp only [Act.put, pqA, pqB, pqC]
 refine VlS (.tuple #[.agg (bytesA 32 c4), .int .i64 0]) ?_
 refine VlS (.agg (bytesA 32 c4)) ?_
 refine VlS (.int .i64 0) ?_
 refine WL.new (by kernel_rfl) 38 rfl _ Tryd.newHb ?_
 have N6 := Keep.mk (below_new w4 (.cells (bytesA 32 fun _ => 0) 38))
 have Q6 := Keep.mk (Blk.new w4 38 (bytesA 32 fun _ => 0))
 change WL _ _ _ _ _ (w4.alloc (.cells (bytesA 32 fun _ => 0) 38))
 generalize w4.alloc (.cells (bytesA 32 fun _ => 0) 38) = w5 at *
 obtain ⟨q6, hq6⟩ : ∃ z, Keep (z = w4.heap.size) := ⟨_, ⟨rfl⟩⟩
 rw [← hq6.out] at Q6 ⊢
 simp only [Act.put, pqA, pqB, pqC]
 refine WL.storeR (by kernel_rfl) 38 (.tmp 5) (.tmp 31) rfl q6 (bytesA 32 c4) rfl rfl 38 (bytesA 32 fun _ => 0) Q6.out (Tryd.size38B _) (bytesA_sizes _ _ _) (bytesA_one _ _) ?_
 have hbs : Below w4.heap.size w4 (w5.setRow q6 (bytesA 32 c4)) := below_setRow N6.out (by rw [hq6.out]; exact Nat.le_refl _) _
 clear N6 Q6
 generalize w5.setRow q6 (bytesA 32 c4) = w6 at *
 have S6 := Keep.mk (S4.out.below hbs)
 have H6 := Keep.mk (H4.out.below hbs H4.out.lt)
 have B6 : Keep (Below w.heap.size w w6) := ⟨B4.out.trans (hbs.mono B4.out.size)⟩
 have Z6 : Keep (w4.heap.size ≤ w6.heap.size) := ⟨hbs.size⟩
 clear hbs
 simp only [Act.put]
 refine VlS (.int .i64 0) ?_
 refine WL.nil (hK6 _ _ ?_)
 refine wp_seq_k fun K7 hK7 => rgn ?_
 refine VlS (.pointer (some ⟨s, 0, none⟩)) ?_
 refine WL.bs (by kernel_rfl) 41 1 _ rfl #[(0, .int .u8 1)] (by simp [Act.eval]) _ _ (bs1 w6) ?_
 have hbx := below_new w6 (.cells #[.int .u8 1] 5)
 have R7 : Keep (RowAt (w6.alloc (.cells #[.int .u8 1] 5)) (.slice (some ⟨w6.heap.size, 0, none⟩) 1 1) [1]) := ⟨row_one w6 1⟩
 have S7 := Keep.mk (S6.out.below hbx)
 have H7 := Keep.mk (H6.out.below hbx H6.out.lt)
 have B7 : Keep (Below w.heap.size w (w6.alloc (.cells #[.int .u8 1] 5))) := ⟨B6.out.trans (hbx.mono B6.out.size)⟩
 have Z7 : Keep (w6.heap.size ≤ (w6.alloc (.cells #[.int .u8 1] 5)).heap.size) := ⟨hbx.size⟩
 clear hbx
 generalize w6.alloc (.cells #[.int .u8 1] 5) = w7 at *
 obtain ⟨b7, hb7⟩ : ∃ z, Keep (z = w6.heap.size) := ⟨_, ⟨rfl⟩⟩
 rw [← hb7.out] at R7 ⊢
 simp only [Act.put, pqA, pqB, pqC]
 refine WL.callF (by kernel_rfl) 9 _ _ rfl Tryd.in9 #[ptr s, .slice (some ⟨b7, 0, none⟩) 1 1] (by simp [Act.eval]) ?_
 refine (put_known JP1 (fun _ => False) (fun x => x = 1) s g m d p _ [1] D4 V4 la4 U' w7 (HT.out.below B7.out HZ.out) S7.out (fun k hk => by have := (U4.out.1 k hk).2; have := Z7.out; have := Z6.out; omega) (fun e => by have := (U4.out.1 0 e).1; have := HZ.out; omega) U4.out.2.1 (by rw [J4.out.1]; simp) R7.out (fun _ k hk e => by have := (U4.out.1 k e).2; have := hb7.out; have := Z6.out; simp [Value.ownBlock] at hk; omega) (by simp) J4.out (by rw [J4.out.1]; simp [hasK])).mono ?_
 rintro e w8 ⟨c8, ee, rfl, g1, g2⟩
 rcases g2 with ⟨g3, D8, V8, la8, g4, g5, g6, g7, g8⟩ | ⟨_, _, _, _, g3, _⟩
 case inr => exact g3.elim
 have he : ee = 0 := by
  rcases g7 with ⟨_, g7⟩ | ⟨g7, _⟩
  ·exact g7.2 (by rw [J4.out.1]; simp [hasK])
  ·exact g7
 subst he
 have S8 := Keep.mk g4
 have J8 := Keep.mk g5
 have H8 : Keep (Blk w8 h 55 #[ptr p]) := ⟨g1.blk H7.out U4.out.2.2⟩
 have U8 : Keep ((∀ k, JN2 U' w7.heap.size w8.heap.size k → w.heap.size ≤ k ∧ k < w8.heap.size) ∧ ¬ JN2 U' w7.heap.size w8.heap.size d ∧ ¬ JN2 U' w7.heap.size w8.heap.size h) := ⟨fun k hk => ⟨by rcases hk.1 with e | e; exact (U4.out.1 k e).1; have := B7.out.size; omega, hk.2⟩, fun e => by rcases e.1 with e | e; exact U4.out.2.1 e; have := Hd3.out; have := G4.out.size; have := Z6.out; have := Z7.out; omega, fun e => by rcases e.1 with e | e; exact U4.out.2.2 e; have := H7.out.lt; omega⟩
 have B8 : Keep (Below w.heap.size w w8) := ⟨B7.out.trans (g1.to_below (fun k hk e => by have := (U4.out.1 k e).1; omega) B7.out.size)⟩
 have Hd8 : Keep (d < w8.heap.size) := ⟨by have := Hd3.out; have := G4.out.size; have := Z6.out; have := Z7.out; have := g1.size; omega⟩
 clear g1 g4 g5 g6 g7 g8
 generalize JN2 U' w7.heap.size w8.heap.size = U9 at *
 refine ⟨_, rfl, ?_⟩
 simp only [Act.put, pqA, pqB, pqC]
 refine VlS (.tuple #[.agg (bytesA 32 c8), .int .i64 0]) ?_
 refine VlS (.agg (bytesA 32 c8)) ?_
 refine VlS (.int .i64 0) ?_
 refine WL.new (by kernel_rfl) 38 rfl _ Tryd.newHb ?_
 have N10 := Keep.mk (below_new w8 (.cells (bytesA 32 fun _ => 0) 38))
 have Q10 := Keep.mk (Blk.new w8 38 (bytesA 32 fun _ => 0))
 change WL _ _ _ _ _ (w8.alloc (.cells (bytesA 32 fun _ => 0) 38))
 generalize w8.alloc (.cells (bytesA 32 fun _ => 0) 38) = w9 at *
 obtain ⟨q10, hq10⟩ : ∃ z, Keep (z = w8.heap.size) := ⟨_, ⟨rfl⟩⟩
 rw [← hq10.out] at Q10 ⊢
 simp only [Act.put, pqA, pqB, pqC]
 refine WL.storeR (by kernel_rfl) 38 (.tmp 7) (.tmp 37) rfl q10 (bytesA 32 c8) rfl rfl 38 (bytesA 32 fun _ => 0) Q10.out (Tryd.size38B _) (bytesA_sizes _ _ _) (bytesA_one _ _) ?_
 have hbs : Below w8.heap.size w8 (w9.setRow q10 (bytesA 32 c8)) := below_setRow N10.out (by rw [hq10.out]; exact Nat.le_refl _) _
 clear N10 Q10
 generalize w9.setRow q10 (bytesA 32 c8) = w10 at *
 have S10 := Keep.mk (S8.out.below hbs)
 have H10 := Keep.mk (H8.out.below hbs H8.out.lt)
 have B10 : Keep (Below w.heap.size w w10) := ⟨B8.out.trans (hbs.mono B8.out.size)⟩
 have Z10 : Keep (w8.heap.size ≤ w10.heap.size) := ⟨hbs.size⟩
 clear hbs
 simp only [Act.put]
 refine VlS (.int .i64 0) ?_
 refine WL.nil (hK7 _ _ ?_)
 refine wp_seq_k fun K8 hK8 => rgn ?_
 refine VlS (.pointer (some ⟨s, 0, none⟩)) ?_
 refine WL.callF (by kernel_rfl) 9 _ _ rfl Tryd.in9 #[ptr s, .slice none 0 0] (by simp [Act.eval]) ?_
 have hk0 : hasK V8.ps [] = false := by rw [J8.out.1]; simp [hasK, kO_unlike]
 refine (put_new JP1 (fun _ => False) (fun x => x = 1) s g m d p _ [] D8 V8 la8 U9 w10 (HT.out.below B10.out HZ.out) S10.out (fun k hk => by have := (U8.out.1 k hk).2; have := Z10.out; omega) (fun e => by have := (U8.out.1 0 e).1; have := HZ.out; omega) U8.out.2.1 (by rw [J8.out.1]; simp) (.inl ⟨rfl, rfl⟩) (fun h => absurd rfl h) (by simp) (fun x hx => by omega) (app_none g d p D8 V8 la8 J8.out) hk0).mono ?_
 rintro e w12 ⟨c12, ee, rfl, g1, g2⟩
 rcases g2 with ⟨g3, D12, V12, la12, g4, g5, g6, g7, g8⟩ | ⟨_, _, _, _, g3, _⟩
 case inr => exact g3.elim
 have he : ee = 1 := by
  rcases g8 with g8 | g8
  ·exfalso
   rcases g7 with ⟨_, g7⟩ | ⟨_, g7, _⟩
   ·have := g7.1 g8; rw [hk0] at this; cases this
   ·rw [g5.1, J8.out.1] at g7; simp at g7
  ·exact g8
 subst he
 have S12 := Keep.mk g4
 have J12 := Keep.mk g5
 have H12 : Keep (Blk w12 h 55 #[ptr p]) := ⟨g1.blk H10.out U8.out.2.2⟩
 have B12 : Keep (Below w.heap.size w w12) := ⟨B10.out.trans (g1.to_below (fun k hk e => by have := (U8.out.1 k e).1; omega) B10.out.size)⟩
 clear g1 g4 g5 g6 g7 g8 hk0
 refine ⟨_, rfl, ?_⟩
 simp only [Act.put, pqA, pqB, pqC]
 refine VlS (.tuple #[.agg (bytesA 32 c12), .int .i64 1]) ?_
 refine VlS (.agg (bytesA 32 c12)) ?_
 refine VlS (.int .i64 1) ?_
 refine WL.new (by kernel_rfl) 38 rfl _ Tryd.newHb ?_
 have N14 := Keep.mk (below_new w12 (.cells (bytesA 32 fun _ => 0) 38))
 have Q14 := Keep.mk (Blk.new w12 38 (bytesA 32 fun _ => 0))
 change WL _ _ _ _ _ (w12.alloc (.cells (bytesA 32 fun _ => 0) 38))
 generalize w12.alloc (.cells (bytesA 32 fun _ => 0) 38) = w13 at *
 obtain ⟨q14, hq14⟩ : ∃ z, Keep (z = w12.heap.size) := ⟨_, ⟨rfl⟩⟩
 rw [← hq14.out] at Q14 ⊢
 simp only [Act.put, pqA, pqB, pqC]
 refine WL.storeR (by kernel_rfl) 38 (.tmp 9) (.tmp 42) rfl q14 (bytesA 32 c12) rfl rfl 38 (bytesA 32 fun _ => 0) Q14.out (Tryd.size38B _) (bytesA_sizes _ _ _) (bytesA_one _ _) ?_
 have hbs : Below w12.heap.size w12 (w13.setRow q14 (bytesA 32 c12)) := below_setRow N14.out (by rw [hq14.out]; exact Nat.le_refl _) _
 clear N14 Q14
 generalize w13.setRow q14 (bytesA 32 c12) = w14 at *
 have S14 := Keep.mk (S12.out.below hbs)
 have H14 := Keep.mk (H12.out.below hbs H12.out.lt)
 have B14 : Keep (Below w.heap.size w w14) := ⟨B12.out.trans (hbs.mono B12.out.size)⟩
 have Z14 : Keep (w12.heap.size ≤ w14.heap.size) := ⟨hbs.size⟩
 clear hbs
 simp only [Act.put]
 refine VlS (.int .i64 1) ?_
 refine WL.nil (hK8 _ _ ?_)
 refine wp_seq_k fun K9 hK9 => rgn ?_
 refine VlS (.pointer (some ⟨s, 0, none⟩)) ?_
 refine WL.callF (by kernel_rfl) 8 _ _ rfl Tryd.in8 #[ptr s] (by simp [Act.eval]) ?_
 refine (slen_sd s g m d p D12 V12 la12 _ w14 S14.out).mono ?_
 rintro e w15 ⟨rfl, hw⟩
 refine ⟨_, rfl, ?_⟩
 obtain rfl : w14 = w15 := hw.symm
 clear hw
 rw [J12.out.1]
 simp only [Act.put, pqA, pqB, pqC]
 refine VlS (.int .i64 1) ?_
 refine WL.nil (hK9 _ _ ?_)
 refine wp_seq_k fun K10 hK10 => rgn ?_
 refine VlS (.int .i64 0) ?_
 refine VlS (.bool true) ?_
 refine VlS (.bool true) ?_
 refine VlS (.int .i64 0) ?_
 refine VlS (.bool true) ?_
 refine VlS (.bool true) ?_
 refine VlS (.bool true) ?_
 refine VlS (.int .i64 1) ?_
 refine VlS (.bool true) ?_
 refine VlS (.bool true) ?_
 refine VlS (.bool true) ?_
 refine VlS (.int .i64 1) ?_
 refine VlS (.bool true) ?_
 refine VlS (.bool true) ?_
 refine VlS (.bool true) ?_
 refine VlS (.pointer (some ⟨h, 0, none⟩)) ?_
 refine WL.callF (by kernel_rfl) 13 _ _ rfl Tryd.in13 #[ptr h] (by simp [Act.eval]) ?_
 refine (hacts_any h p D12.acts w14 (H14.out.c 0 rfl) S14.out.acts).mono ?_
 rintro e w15 ⟨rfl, hw⟩
 refine ⟨_, rfl, ?_⟩
 obtain rfl : w14 = w15 := hw.symm
 clear hw
 rw [J12.out.2]
 simp only [Act.put, pqA, pqB, pqC]
 refine VlS (.bool true) ?_
 refine VlS (.bool true) ?_
 refine VlS (.bool true) ?_
 refine WL.nil (hK10 _ _ ?_)
 refine wp_ret ?_
 go_ret
 exact ⟨rfl, B14.out⟩
theorem bs_refl (a : ByteArray) : (a == a) = true := by rw [beq_toListBytes]; simp
def TxAt (w : World) (v : Value) (l : List ByteArray) : Prop :=
 (∃ a c, v = .slice a 0 c ∧ l = []) ∨ ∃ q c, v = .slice (some ⟨q, 0, none⟩) l.length c ∧ l.length ≤ c ∧ ∀ i x, l[i]? = some x → w.cell? ⟨q, i, none⟩ = some (.string x)
theorem TxAt.grown {w w' : World} {v : Value} {l : List ByteArray} {S : Nat → Prop} (h : TxAt w v l) (hg : Grown w w' S) (hs : ∀ k, v.ownBlock = some k → l ≠ [] → ¬ S k) : TxAt w' v l := by
 rcases h with h | ⟨q, c, rfl, h1, h2⟩
 ·exact .inl h
 ·exact .inr ⟨q, c, rfl, h1, fun i x hx => hg.cell (h2 i x hx) (hs q rfl fun e => by rw [e] at hx; simp at hx)⟩
theorem TxAt.take {w : World} {a : Option Addr} {n c : Nat} {l : List ByteArray} (h : TxAt w (.slice a n c) l) (k : Nat) (hk : k ≤ l.length) : TxAt w (.slice a k c) (l.take k) ∧ (k ≤ c) := by
 rcases h with ⟨a', c', e, rfl⟩ | ⟨q, c', e, h1, h2⟩
 ·have hk0 : k = 0 := by simpa using hk
  subst hk0
  exact ⟨.inl ⟨_, _, rfl, by simp⟩, Nat.zero_le _⟩
 ·injection e with e1 e2 e3
  subst e1 e3
  have hl : (l.take k).length = k := by rw [List.length_take]; omega
  refine ⟨.inr ⟨q, c, by rw [hl], by rw [hl]; omega, fun i x hx => h2 i x ?_⟩, by omega⟩
  rw [List.getElem?_take] at hx
  split at hx
  ·exact hx
  ·cases hx
theorem TxAt.at {w : World} {a : Option Addr} {n c : Nat} {l : List ByteArray} (h : TxAt w (.slice a n c) l) {i : Nat} {x : ByteArray} (hx : l[i]? = some x) : ∃ q, a = some ⟨q, 0, none⟩ ∧ w.cell? ⟨q, i, none⟩ = some (.string x) := by
 rcases h with ⟨a', c', e, rfl⟩ | ⟨q, c', e, h1, h2⟩
 ·simp at hx
 ·injection e with e1 e2 e3
  exact ⟨q, e1, h2 i x hx⟩
theorem OwnS.tx {w : World} {v : Value} {l : List ByteArray} (h : OwnS w v l) : TxAt w v l := by
 rcases h.2 with ⟨rfl, h0⟩ | ⟨g, cap, cur, rfl, _, h3, h4, h5, h6, h7⟩
 ·exact .inl ⟨_, _, rfl, by simpa [sL] using h0⟩
 ·refine .inr ⟨g, cap, rfl, h4, fun i x hx => ?_⟩
  have h3' : Blk w g 9 cur := h3
  have hi := (List.getElem?_eq_some_iff.1 hx).1
  rw [h3'.cell, ← Array.getElem?_toList]
  have : (cur.toList.take (l.length * 1))[i]? = (sL l)[i]? := by rw [h7]
  rw [List.getElem?_take, if_pos (by omega)] at this
  rw [this]
  simp [sL, hx]
theorem Tryd.elemTx : Tryd.prog.elem 35 = 9 := by kernel_rfl
theorem Tryd.sizeTx (w : World) : (sizeOf 9).run Tryd.prog w = .ok 1 w := by kernel_rfl
theorem sl_runT (base : Option Addr) (n cap a : Nat) (ha : a ≤ cap) (wx : World) : (Instr.sliceAt 35 (.slice base n cap) none (some (.int .i64 (a : Int))) none).run Tryd.prog wx = .ok (.slice base a cap) wx := by
 have hu : Tryd.prog.underlying 35 = some (.slice (Tryd.prog.elem 35)) := by rw [Tryd.elemTx]; exact Tryd.underlying35
 have h1 := run_slice_h (P := Tryd.prog) (w := wx) 35 base n cap hu .i64 (a : Int) (by omega) (by omega)
 have h2 := run_sliceAt_slice (P := Tryd.prog) (w := wx) 35 (.slice base n cap) none (some (.int .i64 (a : Int))) none hu
 rw [Tryd.elemTx] at h1
 have h3 : sliced base 0 (a : Int).toNat cap 1 = .slice base a cap := by
  have h4 : (if cap = 0 then base else base.map (·.add (0 * 1))) = base := by
   split
   ·rfl
   ·cases base <;> rfl
  unfold sliced
  rw [h4, Int.toNat_natCast, Nat.sub_zero, Nat.sub_zero]
 rw [h2, h1]
 refine (congrArg (fun z => Result.andThen z fun s w => Result.ok (sliced base 0 (a : Int).toNat cap s) w) (Tryd.sizeTx wx)).trans ?_
 show Result.ok (sliced base 0 (a : Int).toNat cap 1) wx = _
 rw [h3]
theorem WL.slHiT {ops : Array Oper} {rest : List Oper} {o : Oper} {a : Act} {w : World} {Q : Exit → Act → World → Prop} (hw : Region.wanted o (yielded ops a.tmps) = true) (x hi : Operand) (ho : o.op = .slice 35 x none (some hi) none)
  (vx vh vs : Value) (hx : a.eval x = vx) (hh : a.eval hi = vh) (hr : (Instr.sliceAt 35 vx none (some vh) none).run Tryd.prog w = .ok vs w) (h : WL Tryd.prog ops Q rest (a.put o.dst vs) w) : WL Tryd.prog ops Q (o :: rest) a w :=
 WL.val hw vs (by unfold execOp; simp only [ho, hx, hh, Option.map_some, Option.map_none, Sem.run_bind, hr, Result.andThen_ok, Sem.run_pure]) h
theorem results_bool {fn : Func} {p : Tmp} (h : fn.results = #[.cell p 4]) (tmps : Array Value) (w : World) (g : Nat) (b : Bool) (hp : tmps.getD p undef = .pointer (some ⟨g, 0, none⟩)) (hg : Blk w g 4 #[.bool b]) : (results fn tmps).run Tryd.prog w = .ok (.bool b) w := by
 have c := hg.c 0 (by rfl : (#[.bool b] : Array Value)[0]? = some (.bool b))
 simp only [results, h]
 simp only [Array.getD_eq_getD_getElem?] at hp
 simp [asAddr, hp]
 go_simp
def mkD (D : Nat) : Deferred := { target := .collected D, args := #[] }
theorem leaves_marks {n : Nat} {fn : Func} {tmps : Array Value} {R : Ending → World → Prop} : ∀ (ms : List Nat) (w : World), ms.Nodup → (∀ D ∈ ms, w.heap[D]? = some (.deferred (some []))) → (∀ w', Grown w w' (fun k => k ∈ ms) → ∃ v, (results fn tmps).run Tryd.prog w' = .ok v w' ∧ R (.returned v) w') → LeavesInM Fence.wide n Tryd.prog fn tmps R (ms.map mkD) .returning w
 | [], w, _, _, h => h w (Grown.refl _ _)
 | D :: ms, w, hn, hd, h => by
  have hn1 := List.nodup_cons.1 hn
  refine ⟨by simp, .inl ⟨D, _, rfl, run_takeDeferred (hd D (by simp)), ?_⟩⟩
  have hg : Grown w (w.putObj D (.deferred none)) fun k => k = D := Grown.of (grownBy_putObj' w D _) fun k _ e => by cases e; rfl
  refine leaves_marks ms _ hn1.2 (fun E hE => ?_) fun w' hw' => h w' ((hg.mono fun k _ e => by rw [e]; simp).trans (hw'.mono fun k _ e => List.mem_cons_of_mem _ e))
  rw [World.putObj_heap_other (fun e => hn1.1 (by rw [← e]; exact hE))]
  exact hd E (List.mem_cons_of_mem _ hE)
structure Rdy (D : DV) (all : List (List Int)) (sure : Nat) : Prop where
 ok : DOk D
 out : D.out = false
 fuse : D.fuse = -1
 rd : ∃ k, sure ≤ k ∧ k ≤ all.length ∧ (openV (Fk D.fs)).ps = all.take k
theorem CR.rdy {D : DV} {all : List (List Int)} {sure : Nat} (h : CR D all sure) (kp : List Int) : Rdy (D.crash kp) all sure := ⟨h.ok.crash kp, rfl, rfl, h.rd kp⟩
theorem Rdy.opened {D D' : DV} {all : List (List Int)} {sure : Nat} (h : Rdy D all sure) (hM : MPost D D' 0 (openV (Fk D.fs))) : ∃ k, sure ≤ k ∧ k ≤ all.length ∧ (openV (Fk D.fs)).ps = all.take k ∧ Rdy D' (all.take k) k := by
 obtain ⟨k, h1, h2, h3⟩ := h.rd
 have ho : D'.out = false ∧ Mended (Fk D.fs) (Fk D'.fs) (openV (Fk D.fs)) := by
  rcases hM.ans with ⟨_, h5, h6⟩ | ⟨h5, _⟩
  ·exact ⟨h5, h6⟩
  ·cases h5
 have hl : (all.take k).length = k := by rw [List.length_take]; omega
 refine ⟨k, h1, h2, h3, hM.ok, ho.1, (hM.fuse h.fuse).2, k, Nat.le_refl _, by rw [hl]; exact Nat.le_refl _, ?_⟩
 rw [openV_mended ho.2]
 show (openV (Fk D.fs)).ps = _
 rw [h3, List.take_take, Nat.min_self]
theorem Tryd.in11 (w : World) (vs : Array Value) : (callFunc 11 vs).run Tryd.prog w = .ok (.enter 11 vs) w := by kernel_rfl
structure TB (w0 wr : World) (d p r8 b14 : Nat) (all : List (List Int)) (va : Option Addr) (vc : Nat) (ms : List Nat) : Prop where
 tab : Tab wr
 pos : 0 < w0.heap.size
 bel : Below w0.heap.size w0 wr
 rb : Blk wr r8 4 #[.bool false]
 lr : w0.heap.size ≤ r8
 pb : Blk wr b14 35 #[.slice va all.length vc]
 lb : w0.heap.size ≤ b14
 tx : TxAt wr (.slice va all.length vc) (all.map strOfNums)
 tt : ∀ k, (Value.slice va all.length vc).ownBlock = some k → all ≠ [] → Typ wr k 9
 dk : Blk wr d 53 #[ptr p]
 nd : ms.Nodup
 mz : ∀ E ∈ ms, wr.heap[E]? = some (.deferred (some [])) ∧ w0.heap.size ≤ E
theorem TB.grown {w0 wr w' : World} {d p r8 b14 : Nat} {all : List (List Int)} {va : Option Addr} {vc : Nat} {ms : List Nat} {S : Nat → Prop} (h : TB w0 wr d p r8 b14 all va vc ms) (hg : Grown wr w' S) (hS : ∀ k, k < wr.heap.size → S k → w0.heap.size ≤ k ∧ (Typ wr k 5 ∨ Typ wr k 72 ∨ Typ wr k 51 ∨ Typ wr k 3)) : TB w0 w' d p r8 b14 all va vc ms := by
 have hs0 := h.bel.size
 have hb : ∀ {k : Nat} {T : TypeId} {cs : Array Value}, Blk wr k T cs → T ≠ 5 ∧ T ≠ 72 ∧ T ≠ 51 ∧ T ≠ 3 → ¬ S k := fun hk hT e => by
  rcases (hS _ hk.lt e).2 with h1 | h1 | h1 | h1
  ·exact hT.1 (hk.typ.one h1)
  ·exact hT.2.1 (hk.typ.one h1)
  ·exact hT.2.2.1 (hk.typ.one h1)
  ·exact hT.2.2.2 (hk.typ.one h1)
 have h9 : ∀ k, Typ wr k 9 → ¬ S k := fun k hk e => by
  rcases (hS _ hk.lt e).2 with h1 | h1 | h1 | h1 <;> exact absurd (hk.one h1) (by decide)
 refine ⟨h.tab.grown hg fun e => by have := (hS 0 (by have := h.pos; omega) e).1; have := h.pos; omega, h.pos, h.bel.trans (hg.to_below (fun k hk e => by have := (hS k (by omega) e).1; omega) hs0), hg.blk h.rb (hb h.rb (by decide)), h.lr, hg.blk h.pb (hb h.pb (by decide)), h.lb, h.tx.grown hg (fun k hk hn => h9 k (h.tt k hk fun e => hn (by rw [e]; rfl))), fun k hk hn => ?_, hg.blk h.dk (hb h.dk (by decide)), h.nd, fun E hE => ⟨?_, (h.mz E hE).2⟩⟩
 ·obtain ⟨cs, fz, h1⟩ := h.tt k hk hn
  exact ⟨cs, fz, by rw [hg.block k (Array.getElem?_eq_some_iff.1 h1).1 (h9 k ⟨cs, fz, h1⟩)]; exact h1⟩
 ·have h1 := (h.mz E hE).1
  have hl := (Array.getElem?_eq_some_iff.1 h1).1
  rw [hg.block E hl fun e => ?_]
  ·exact h1
  ·rcases (hS E hl e).2 with ⟨cs, fz, h2⟩ | ⟨cs, fz, h2⟩ | ⟨cs, fz, h2⟩ | ⟨cs, fz, h2⟩ <;> (rw [h1] at h2; cases h2)
theorem TB.below {w0 wr w' : World} {d p r8 b14 : Nat} {all : List (List Int)} {va : Option Addr} {vc : Nat} {ms : List Nat} (h : TB w0 wr d p r8 b14 all va vc ms) (hb : Below wr.heap.size wr w') : TB w0 w' d p r8 b14 all va vc ms := h.grown (Grown.below (S := fun _ => False) hb) fun _ _ h => h.elim
theorem TB.dsk {w0 wr w' : World} {d p r8 b14 : Nat} {all : List (List Int)} {va : Option Addr} {vc : Nat} {ms : List Nat} {vf : Value} {cs : List FC} {D : DV} (h : TB w0 wr d p r8 b14 all va vc ms) (hD : DskAt wr p vf cs D) (hl : ∀ k, DskS p vf cs k → w0.heap.size ≤ k) (hg : Grown wr w' (DskS p vf cs)) : TB w0 w' d p r8 b14 all va vc ms :=
 h.grown hg fun k _ e => ⟨hl k e, by rcases hD.sTyp e with h1 | h1 | h1; exact .inl h1; exact .inr (.inl h1); exact .inr (.inr (.inl h1))⟩
structure TI (w0 wr : World) (d p r8 b14 : Nat) (all : List (List Int)) (va : Option Addr) (vc : Nat) (ms : List Nat) (sure : Nat) (D : DV) (vf : Value) (cs : List FC) : Prop where
 tb : TB w0 wr d p r8 b14 all va vc ms
 ds : DskAt wr p vf cs D
 dl : ∀ k, DskS p vf cs k → w0.heap.size ≤ k
 rd : Rdy D all sure
 dis : DisK all
 len : all.length ≤ 300000000
def RI (w7 : World) (bi k : Nat) (pre : List BX) (W : World) : Prop := Blk W bi 3 #[.int .i64 (pre.length : Int)] ∧ pre.length ≤ k ∧ Grown w7 W fun j => j = bi
theorem RI.own {w7 : World} {bi k B : Nat} (hB : w7.heap.size ≤ B) : OwnFrom B (RI w7 bi k) := fun pre X Y row h hg hr => by
 have hG : Grown X Y fun k => row = some k := Grown.of hg fun k _ e => e
 refine ⟨hG.blk h.1 fun e => ?_, h.2.1, h.2.2.next hG fun j hj e => by have := (hr j e).1; omega⟩
 obtain ⟨_, ob, ho, hc⟩ := hr bi e
 have h1 := h.1
 unfold Blk at h1
 rw [h1] at ho
 cases ho
 cases hc
theorem row_own {X Y : World} {row : Option Nat} {B : Nat} {v : Value} {l : List Int} (h : RowAt X v l) (hl : l ≠ []) (hg : X.grownBy Y row) (hr : ∀ r, row = some r → B ≤ r ∧ ∃ o : Obj, X.heap[r]? = some o ∧ o.isCells = false) : RowAt Y v l := by
 refine h.grown (Grown.of hg (S := fun k => row = some k) fun k _ e => e) fun b hb _ e => ?_
 rcases h with ⟨_, e⟩ | ⟨_, _, _, e⟩ | ⟨g, off, cap, rfl, _, h⟩
 ·exact hl e
 ·exact hl e
 ·cases hb
  obtain ⟨_, ob, ho, hc⟩ := hr g e
  have h1 := h 0 (List.length_pos_iff.2 hl)
  cases ob with
  | cells => cases hc
  | _ => simp [World.cell?, ho] at h1
theorem new_int (w : World) : (Instr.alloc 3 true (.tuple #[])).run Tryd.prog w = .ok (.pointer (some ⟨w.heap.size, 0, none⟩)) (w.alloc (.cells #[.int .i64 0] 3)) := by kernel_rfl
set_option maxRecDepth 8000 in
set_option maxHeartbeats 4000000 in
theorem turns {w0 wi : World} {d h p r8 b14 vc sure : Nat} {va : Option Addr} {vk vf : Value} {kp : List Int} {all : List (List Int)} {D : DV} {cs : List FC} {x0 x1 x2 x4 x5 x6 x7 x9 x12 x13 x16 x17 x18 x19 x20 x21 x22 x23 x24 x25 x26 x27 x28 x29 x30 x31 x32 x33 x34 x35 x36 x37 x38 x39 x40 x41 x42 x43 x44 x45 x46 x47 x48 x49 x50 x51 x52 x53 x54 x55 x56 x57 x58 x59 x60 x61 x62 x63 x64 x65 x66 x67 x68 x69 x70 x71 x72 x73 x74 x75 x76 x77 x78 x79 x80 x81 x82 x83 x84 x85 x86 x87 x88 x89 x90 x91 x92 x93 x94 x95 x96 x97 x98 x99 x100 x101 x102 x103 x104 x105 x106 x107 x108 x109 x110 x111 x112 x113 x114 x115 x116 x117 x118 x119 x120 x121 x122 x123 x124 x125 x126 x127 x128 x129 x130 x131 x132 x133 x134 x135 x136 x137 x138 x139 x140 x141 x142 x143 x144 x145 x146 x147 x148 x149 x150 x151 x152 x153 x154 x155 x156 x157 x158 x159 x160 x161 : Value}
  (hTB : TB w0 wi d p r8 b14 all va vc []) (hH : Blk wi h 55 #[ptr p]) (hD : DskAt wi p vf cs D) (hDl : ∀ k, DskS p vf cs k → w0.heap.size ≤ k) (hC : CR D all sure) (hDis : DisK all) (hal : all.length ≤ 300000000) (hAc : D.acts ≤ 4611686018427370000) (hK : IntsAt wi vk kp) (hKb : kp ≠ [] → ∀ k, vk.ownBlock = some k → k < w0.heap.size) :
  Code.wp Tryd.prog (sndS (sndS (sndS (sndS (sndS (sndS (sndS (sndS (sndS (bodyC Tryd.f3)))))))))) (bodyPostM Fence.wide 3 Tryd.prog Tryd.f3 (fun e w' => e = .returned (.bool true) ∧ Below w0.heap.size w0 w')) { tmps := #[x0, x1, x2, vk, x4, x5, x6, x7, .pointer (some ⟨r8, 0, none⟩), x9, .pointer (some ⟨d, 0, none⟩), .pointer (some ⟨h, 0, none⟩), x12, x13, .pointer (some ⟨b14, 0, none⟩), .int .i64 (sure : Int), x16, x17, x18, x19, x20, x21, x22, x23, x24, x25, x26, x27, x28, x29, x30, x31, x32, x33, x34, x35, x36, x37, x38, x39, x40, x41, x42, x43, x44, x45, x46, x47, x48, x49, x50, x51, x52, x53, x54, x55, x56, x57, x58, x59, x60, x61, x62, x63, x64, x65, x66, x67, x68, x69, x70, x71, x72, x73, x74, x75, x76, x77, x78, x79, x80, x81, x82, x83, x84, x85, x86, x87, x88, x89, x90, x91, x92, x93, x94, x95, x96, x97, x98, x99, x100, x101, x102, x103, x104, x105, x106, x107, x108, x109, x110, x111, x112, x113, x114, x115, x116, x117, x118, x119, x120, x121, x122, x123, x124, x125, x126, x127, x128, x129, x130, x131, x132, x133, x134, x135, x136, x137, x138, x139, x140, x141, x142, x143, x144, x145, x146, x147, x148, x149, x150, x151, x152, x153, x154, x155, x156, x157, x158, x159, x160, x161], defers := [] } wi := by
 have HTB := Keep.mk hTB
 have HH := Keep.mk hH
 have HD := Keep.mk hD
 have HDl := Keep.mk hDl
 have HC := Keep.mk hC
 have HDis := Keep.mk hDis
 have Hal := Keep.mk hal
 have HAc := Keep.mk hAc
 have HK := Keep.mk hK
 have HKb := Keep.mk hKb
 clear hTB hH hD hDl hC hDis hal hAc hK hKb
 generalize hg : (bodyPostM Fence.wide 3 Tryd.prog Tryd.f3 (fun e w' => e = .returned (.bool true) ∧ Below w0.heap.size w0 w')) = Q
 unfold Tryd.f3
 simp only [bodyC, sndS]
 subst hg
 refine wp_seq_k fun K1 hK1 => rgn ?_
 refine VlS (.pointer (some ⟨h, 0, none⟩)) ?_
 refine VlS (vk) ?_
 refine WL.callF (by kernel_rfl) 11 _ _ rfl Tryd.in11 #[ptr h, vk] (by simp [Act.eval]) ?_
 refine (crash_any h p vk vf kp cs D wi HH.out HD.out HK.out (fun hn k hk => ⟨fun e => by have h1 := HKb.out hn k hk; have h2 := HDl.out p (.inl rfl); omega, fun e => by have h1 := HKb.out hn k hk; have h2 := HDl.out k (.inr (.inl e)); omega⟩) (by rw [HD.out.fcs.len]; have := HC.out.ok.len; omega) (fun f hf => ⟨(HC.out.ok.sf f hf).1, (HC.out.ok.sf f hf).2, by have := HC.out.siz f hf; omega⟩) (by have := HC.out.ok.big; omega)).mono ?_
 rintro e w1 ⟨rfl, cs1, h1, h2, h3⟩
 have TI1 : Keep (TI w0 w1 d p r8 b14 all va vc [] sure (D.crash kp) vf cs1) := ⟨⟨HTB.out.dsk HD.out HDl.out (h2.mono fun k _ e => by rcases e with e | e; exact .inl e; exact .inr (.inl e)), h1, fun k hk => by rcases h3 k hk with h | h; exact HDl.out k h; have := HTB.out.bel.size; omega, HC.out.rdy kp, HDis.out, Hal.out⟩⟩
 have HAc1 : Keep ((D.crash kp).acts ≤ 4611686018427370000) := ⟨HAc.out⟩
 clear h1 h2 h3 HTB HD HDl HC HDis Hal HAc HH HK HKb
 generalize D.crash kp = D1 at *
 refine ⟨_, rfl, ?_⟩
 simp only [Act.put, pqA, pqB, pqC]
 refine WL.nil (hK1 _ _ ?_)
 refine wp_seq_k fun K2 hK2 => ?_
 refine wp_seq_k fun K3 hK3 => rgn ?_
 refine VlS (.int .i64 0) ?_
 refine WL.nil (hK3 _ _ ?_)
 refine wp_block ?_
 refine wp_loop (fun acx wr => ∃ (t : Nat) (y22 y23 y24 y25 y111 y112 y113 y114 y115 y116 y117 y118 y119 y120 y121 y122 y123 y124 y125 y126 y127 y128 y129 y130 y131 y132 y133 y134 y135 y136 y137 y138 y155 y156 y157 y158 y159 y160 y161 : Value) (sure : Nat) (all : List (List Int)) (va : Option Addr) (vc : Nat) (ms : List Nat) (D : DV) (vf : Value) (cs : List FC), acx = { tmps := #[x0, x1, x2, vk, x4, x5, x6, x7, .pointer (some ⟨r8, 0, none⟩), x9, .pointer (some ⟨d, 0, none⟩), .pointer (some ⟨h, 0, none⟩), x12, x13, .pointer (some ⟨b14, 0, none⟩), .int .i64 (sure : Int), x16, x17, x18, x19, x20, .int .i64 (t : Int), y22, y23, y24, y25, x26, x27, x28, x29, x30, x31, x32, x33, x34, x35, x36, x37, x38, x39, x40, x41, x42, x43, x44, x45, x46, x47, x48, x49, x50, x51, x52, x53, x54, x55, x56, x57, x58, x59, x60, x61, x62, x63, x64, x65, x66, x67, x68, x69, x70, x71, x72, x73, x74, x75, x76, x77, x78, x79, x80, x81, x82, x83, x84, x85, x86, x87, x88, x89, x90, x91, x92, x93, x94, x95, x96, x97, x98, x99, x100, x101, x102, x103, x104, x105, x106, x107, .pointer (some ⟨h, 0, none⟩), vk, undef, y111, y112, y113, y114, y115, y116, y117, y118, y119, y120, y121, y122, y123, y124, y125, y126, y127, y128, y129, y130, y131, y132, y133, y134, y135, y136, y137, y138, x139, x140, x141, x142, x143, x144, x145, x146, x147, x148, x149, x150, x151, x152, x153, x154, y155, y156, y157, y158, y159, y160, y161], defers := ms.map mkD } ∧ t ≤ 2 ∧ TI w0 wr d p r8 b14 all va vc ms sure D vf cs ∧ D.acts ≤ 4611686018427370000 + 1000 * (t : Int)) (fun acx _ => 2 - (intOf (acx.tmps.getD 21 undef)).toNat) ⟨0, x22, x23, x24, x25, x111, x112, x113, x114, x115, x116, x117, x118, x119, x120, x121, x122, x123, x124, x125, x126, x127, x128, x129, x130, x131, x132, x133, x134, x135, x136, x137, x138, x155, x156, x157, x158, x159, x160, x161, sure, all, va, vc, [], D1, vf, cs1, rfl, by omega, TI1.out, by have := HAc1.out; omega⟩ ?_
 clear TI1 HAc1
 rintro acx wr ⟨t, y22, y23, y24, y25, y111, y112, y113, y114, y115, y116, y117, y118, y119, y120, y121, y122, y123, y124, y125, y126, y127, y128, y129, y130, y131, y132, y133, y134, y135, y136, y137, y138, y155, y156, y157, y158, y159, y160, y161, sure, all, va, vc, ms, D, vf, cs, rfl, ht, h1, h2⟩
 have HI := Keep.mk h1
 have HAc := Keep.mk h2
 clear h1 h2
 by_cases hlt : t < 2
 ·have hlt' : (t : Int) < 2 := by omega
  have hwt : IntKind.i64.wrap ((t : Int) + 1) = (t : Int) + 1 := by rw [IntKind.wrap_i64]; omega
  refine wp_seq_k fun K4 hK4 => ?_
  refine wp_seq_k fun K5 hK5 => rgn ?_
  refine VlS (.int .i64 (t : Int)) ?_
  refine VlS (.bool true) ?_
  refine WL.nil (hK5 _ _ ?_)
  refine wp_cond_true rfl ?_
  refine wp_skip ?_
  refine hK4 _ _ ?_
  refine wp_seq_k fun K6 hK6 => ?_
  refine wp_block ?_
  refine wp_seq_k fun K7 hK7 => rgn ?_
  refine VlS (.pointer (some ⟨d, 0, none⟩)) ?_
  refine WL.callF (by kernel_rfl) 6 _ _ rfl Tryd.in6 #[ptr d] (by simp [Act.eval]) ?_
  obtain ⟨k, k1, k2, k3⟩ := HI.out.rd.rd
  refine (bopen_any d p D (DskS p vf cs) wr HI.out.tb.tab ⟨HI.out.tb.dk, vf, cs, HI.out.ds, fun k hk => hk⟩ (fun e => by have := HI.out.dl 0 e; have := HI.out.tb.pos; omega) (fun e => by rcases HI.out.ds.sTyp e with h1 | h1 | h1 <;> exact absurd (h1.one HI.out.tb.dk.typ) (by decide)) (fun k hk => HI.out.ds.sLt hk) HI.out.rd.ok HI.out.rd.out (by have := HAc.out; omega) HI.out.rd.fuse (by rw [k3]; exact HI.out.dis.take k) (by rw [k3, List.length_take]; have := HI.out.len; omega)).mono ?_
  rintro e w2 ⟨s, g, m, vl, L, D', B, C, rfl, a1, a2, a3, a4, a5, a6, a7, a8, a9, a10, a11, a12, a13⟩
  clear k1 k2 k3
  clear k
  obtain ⟨k, k1, k2, k3, k4⟩ := HI.out.rd.opened a1
  obtain ⟨-, vf2, cs2, a14, a15⟩ := a7
  obtain ⟨an, han⟩ : ∃ z, Keep (z = all.length) := ⟨_, ⟨rfl⟩⟩
  have T2 : Keep (TB w0 w2 d p r8 b14 all va vc ms) := ⟨HI.out.tb.dsk HI.out.ds HI.out.dl a13⟩
  have D2 := Keep.mk a14
  have L2 : Keep (∀ k, DskS p vf2 cs2 k → w0.heap.size ≤ k) := ⟨fun k hk => by rcases (a15 k hk).1 with h | h; exact HI.out.dl k h; have := HI.out.tb.bel.size; omega⟩
  have S2 := Keep.mk a2
  have HL : Keep (L.map (·.1) = all.take k ∧ L.length = k) := ⟨by rw [← k3]; exact a3, by have h := congrArg List.length a3; rw [List.length_map, k3, List.length_take] at h; omega⟩
  have HR := Keep.mk k4
  have Hk : Keep (sure ≤ k ∧ k ≤ an) := ⟨k1, by rw [han.out]; exact k2⟩
  have HPay : Keep (∀ x ∈ L, x.1.length ≤ 140737488355328) := ⟨fun x hx => by have h := openV_pay (Fk D.fs) x.1 (by rw [← a3]; exact List.mem_map_of_mem hx); have := h.2; omega⟩
  have Hac2 : Keep (D'.acts ≤ D.acts + 300) := ⟨a1.acts.2⟩
  have Hdis := Keep.mk HI.out.dis
  have Hlen : Keep (an ≤ 300000000) := ⟨by rw [han.out]; exact HI.out.len⟩
  have Hw2 : Keep (w0.heap.size ≤ w2.heap.size) := ⟨T2.out.bel.size⟩
  clear a1 a2 a3 a4 a5 a6 a8 a9 a10 a11 a12 a13 a14 a15 k1 k2 k3 k4 HI
  refine ⟨_, rfl, ?_⟩
  simp only [Act.put, pqA, pqB, pqC]
  refine VlS (.tuple #[.pointer (some ⟨s, 0, none⟩), .int .i64 0]) ?_
  refine VlS (.pointer (some ⟨s, 0, none⟩)) ?_
  refine VlS (.int .i64 0) ?_
  refine VlS (.pointer (some ⟨s, 0, none⟩)) ?_
  refine VlS (.int .i64 0) ?_
  refine WL.nil (hK7 _ _ ?_)
  refine wp_seq_k fun K8 hK8 => ?_
  refine wp_seq_k fun K9 hK9 => rgn ?_
  refine VlS (.pointer (some ⟨s, 0, none⟩)) ?_
  refine VlS (.bool false) ?_
  refine VlS (.bool false) ?_
  refine VlS (.int .i64 0) ?_
  refine VlS (.bool false) ?_
  refine VlS (.bool false) ?_
  refine WL.nil (hK9 _ _ ?_)
  refine wp_cond_false rfl ?_
  refine wp_skip ?_
  refine hK8 _ _ ?_
  refine wp_seq_k fun K10 hK10 => rgn ?_
  refine VlS (.pointer (some ⟨s, 0, none⟩)) ?_
  refine WL.callF (by kernel_rfl) 8 _ _ rfl Tryd.in8 #[ptr s] (by simp [Act.eval]) ?_
  refine (slen_any s g m vl L false w2 S2.out).mono ?_
  rintro e w9 ⟨rfl, hw⟩
  refine ⟨_, rfl, ?_⟩
  obtain rfl : w2 = w9 := hw.symm
  clear hw
  rw [HL.out.2]
  simp only [Act.put, pqA, pqB, pqC]
  refine WL.new (by kernel_rfl) 3 rfl _ new_int ?_
  have N3 := Keep.mk (Blk.new w2 3 #[.int .i64 0])
  have B3 := Keep.mk (below_new w2 (.cells #[.int .i64 0] 3))
  change WL _ _ _ _ _ (w2.alloc (.cells #[.int .i64 0] 3))
  generalize w2.alloc (.cells #[.int .i64 0] 3) = w3 at *
  obtain ⟨bn, hbn⟩ : ∃ z, Keep (z = w2.heap.size) := ⟨_, ⟨rfl⟩⟩
  rw [← hbn.out] at N3 ⊢
  have f_o := N3.out.frozen 0
  have c_o : w3.cell? ⟨bn, 0, none⟩ = some (.int .i64 0) := N3.out.c 0 rfl
  simp only [Act.put, pqA, pqB, pqC]
  refine WL.cell (by kernel_rfl) (w3.setCell ⟨bn, 0, none⟩ (.int .i64 (k : Int))) (by go_simp) ?_
  clear f_o c_o
  have N4 : Keep (Blk (w3.setCell ⟨bn, 0, none⟩ (.int .i64 (k : Int))) bn 3 #[.int .i64 (k : Int)]) := ⟨N3.out.set 0 _⟩
  have B4 : Keep (Below w2.heap.size w2 (w3.setCell ⟨bn, 0, none⟩ (.int .i64 (k : Int)))) := ⟨B3.out.setCell (by rw [hbn.out]; exact Nat.le_refl _) _⟩
  clear N3 B3
  generalize w3.setCell ⟨bn, 0, none⟩ (.int .i64 (k : Int)) = w4 at *
  have T4 := Keep.mk (T2.out.below B4.out)
  have c24 : w4.cell? ⟨bn, 0, none⟩ = some (.int .i64 (k : Int)) := N4.out.c 0 rfl
  have c14 : w4.cell? ⟨b14, 0, none⟩ = some (.slice va an vc) := by have h := T4.out.pb.c 0 (by rfl : (#[.slice va all.length vc] : Array Value)[0]? = some (.slice va all.length vc)); rw [← han.out] at h; exact h
  have hn1 : ¬ (k : Int) < (sure : Int) := by have := Hk.out; omega
  have hn2 : ¬ (an : Int) < (k : Int) := by have := Hk.out; omega
  simp only [Act.put]
  refine WL.nil (hK10 _ _ ?_)
  refine wp_seq_k fun K11 hK11 => ?_
  refine wp_seq_k fun K12 hK12 => rgn ?_
  refine VlS (.int .i64 (k : Int)) ?_
  refine VlS (.int .i64 (sure : Int)) ?_
  refine VlS (.bool false) ?_
  refine VlS (.bool false) ?_
  refine VlS (.int .i64 (k : Int)) ?_
  refine VlS (.slice va an vc) ?_
  refine VlS (.int .i64 (an : Int)) ?_
  refine VlS (.bool false) ?_
  refine VlS (.bool false) ?_
  refine WL.nil (hK12 _ _ ?_)
  refine wp_cond_false rfl ?_
  refine wp_skip ?_
  refine hK11 _ _ ?_
  refine wp_seq_k fun K13 hK13 => rgn ?_
  clear c24 c14 hn1 hn2
  refine WL.new (by kernel_rfl) 3 rfl _ new_int ?_
  have M5 := Keep.mk (Blk.new w4 3 #[.int .i64 0])
  have B5 := Keep.mk (below_new w4 (.cells #[.int .i64 0] 3))
  change WL _ _ _ _ _ (w4.alloc (.cells #[.int .i64 0] 3))
  generalize w4.alloc (.cells #[.int .i64 0] 3) = w5 at *
  obtain ⟨bi, hbi⟩ : ∃ z, Keep (z = w4.heap.size) := ⟨_, ⟨rfl⟩⟩
  rw [← hbi.out] at M5 ⊢
  have f_o := M5.out.frozen 0
  have c_o : w5.cell? ⟨bi, 0, none⟩ = some (.int .i64 0) := M5.out.c 0 rfl
  simp only [Act.put, pqA, pqB, pqC]
  refine WL.cell (by kernel_rfl) (w5.setCell ⟨bi, 0, none⟩ (.int .i64 0)) (by go_simp) ?_
  clear f_o c_o
  have M6 : Keep (Blk (w5.setCell ⟨bi, 0, none⟩ (.int .i64 0)) bi 3 #[.int .i64 0]) := ⟨M5.out.set 0 _⟩
  have B6 : Keep (Below w4.heap.size w4 (w5.setCell ⟨bi, 0, none⟩ (.int .i64 0))) := ⟨B5.out.setCell (by rw [hbi.out]; exact Nat.le_refl _) _⟩
  clear M5 B5
  generalize w5.setCell ⟨bi, 0, none⟩ (.int .i64 0) = w6 at *
  have T6 := Keep.mk (T4.out.below B6.out)
  have N6 := Keep.mk (N4.out.below B6.out N4.out.lt)
  have Hbi : Keep (w2.heap.size ≤ bi ∧ w2.heap.size ≤ bn ∧ bn < bi) := ⟨by have h1 := B4.out.size; have h2 := hbi.out; have h3 := hbn.out; have h4 := N4.out.lt; omega⟩
  have B26 : Keep (Below w2.heap.size w2 w6) := ⟨B4.out.trans (B6.out.mono B4.out.size)⟩
  clear B4 B6 T4 N4
  simp only [Act.put]
  refine WL.nil (hK13 _ _ ?_)
  refine wp_seq_k fun K14 hK14 => ?_
  refine wp_seq_k fun K15 hK15 => rgn ?_
  refine VlS (.pointer (some ⟨s, 0, none⟩)) ?_
  refine WL.callF (by kernel_rfl) 12 _ _ rfl Tryd.in12 #[ptr s] (by simp [Act.eval]) ?_
  refine (ball_any s w6).mono ?_
  rintro e w7 ⟨rfl, hw⟩
  refine ⟨_, rfl, ?_⟩
  have X7 : Keep (Blk w7 w6.heap.size 30 #[.pointer (some ⟨s, 0, none⟩)]) := ⟨by rw [hw]; exact Blk.new _ _ _⟩
  have B7 : Keep (Below w6.heap.size w6 w7) := ⟨by rw [hw]; exact below_new _ _⟩
  clear hw
  obtain ⟨Bs, hBs⟩ : ∃ z, Keep (z = w6.heap.size) := ⟨_, ⟨rfl⟩⟩
  rw [← hBs.out] at X7 ⊢
  have T7 := Keep.mk (T6.out.below B7.out)
  have N7 := Keep.mk (N6.out.below B7.out N6.out.lt)
  have M7 := Keep.mk (M6.out.below B7.out M6.out.lt)
  have B27 : Keep (Below w2.heap.size w2 w7) := ⟨B26.out.trans (B7.out.mono B26.out.size)⟩
  clear T6 N6 M6 B26 B7 hBs
  have D7 := Keep.mk (D2.out.below B27.out)
  have hpb := T7.out.pb
  rw [← han.out] at hpb
  have P7 := Keep.mk hpb
  have htx := T7.out.tx
  rw [← han.out] at htx
  have X8 := Keep.mk htx
  clear hpb htx
  simp only [Act.put, pqA, pqB, pqC]
  refine WL.nil (hK15 _ _ ?_)
  refine wp_block ?_
  refine (wpIn_wide (n := 4)).1 ?_
  refine range_told (n := 4) (by omega) (gf := 23) (lb := #[.pointer (some ⟨Bs, 0, none⟩)]) rfl (enters_of Tryd.func23 (by kernel_rfl) rfl) (ball_told 3 Bs s g m vl L w2 w7 S2.out HPay.out (by have := HL.out.2; have := Hk.out; have := Hlen.out; omega) B27.out X7.out) (fun _ _ _ h k => h.trans k) (fun X r r' hr => ?kb) (Below.refl _ _) (fun _ => rfl) (RI w7 bi k) (RI.own (Nat.le_refl _)) ⟨M7.out, Nat.zero_le _, Grown.refl _ _⟩ (fun pre x a' X => a' = { tmps := #[x0, x1, x2, vk, x4, x5, x6, x7, .pointer (some ⟨r8, 0, none⟩), x9, .pointer (some ⟨d, 0, none⟩), .pointer (some ⟨h, 0, none⟩), x12, x13, .pointer (some ⟨b14, 0, none⟩), .int .i64 (sure : Int), x16, x17, x18, x19, x20, .int .i64 (t : Int), .pointer (some ⟨s, 0, none⟩), .int .i64 0, .pointer (some ⟨bn, 0, none⟩), .pointer (some ⟨bi, 0, none⟩), x26, x.2, x28, x29, x30, x31, x32, x33, x34, x35, x36, x37, x38, x39, x40, x41, x42, x43, x44, x45, x46, x47, x48, x49, x50, x51, x52, x53, x54, x55, x56, x57, x58, x59, x60, x61, x62, x63, x64, x65, x66, x67, x68, x69, x70, x71, x72, x73, x74, x75, x76, x77, x78, x79, x80, x81, x82, x83, x84, x85, x86, x87, x88, x89, x90, x91, x92, x93, x94, x95, x96, x97, x98, x99, x100, x101, x102, x103, x104, x105, x106, x107, .pointer (some ⟨h, 0, none⟩), vk, undef, .int .i64 (t : Int), .bool true, y113, y114, .tuple #[.pointer (some ⟨s, 0, none⟩), .int .i64 0], .pointer (some ⟨d, 0, none⟩), .tuple #[.pointer (some ⟨s, 0, none⟩), .int .i64 0], .pointer (some ⟨s, 0, none⟩), .int .i64 0, .pointer (some ⟨s, 0, none⟩), .bool false, .bool false, .int .i64 0, .bool false, .bool false, .pointer (some ⟨s, 0, none⟩), .int .i64 (k : Int), .int .i64 (k : Int), .int .i64 (sure : Int), .bool false, .bool false, .int .i64 (k : Int), .slice va an vc, .int .i64 (an : Int), .bool false, .bool false, .pointer (some ⟨s, 0, none⟩), .func (.func 23) #[] #[.pointer (some ⟨Bs, 0, none⟩)], .agg (bytesA 32 (shaP x.1)), x.2, x141, x142, x143, x144, x145, x146, x147, x148, x149, x150, x151, x152, x153, x154, y155, y156, y157, y158, y159, y160, y161], defers := [] } ∧ RI w7 bi k pre X ∧ FxB L pre x X ∧ pre.length < L.length) ?ax ?assign ?body ?done
  case kb =>
   have hgp : Grown X (X.putObj (w7.heap.size + 1) (.loop r')) fun j => j = w7.heap.size + 1 := Grown.of (grownBy_putObj' X _ _) fun k _ e => by cases e; rfl
   have hlx := hr.lt
   have h27 := B27.out.size
   refine ⟨hgp.to_below (fun j hj e => by omega) (by omega), fun j cs hj => hgp.blk hj fun e => ?_⟩
   subst e
   have h1 := hr.l
   unfold Blk at hj
   rw [hj] at h1
   cases h1
  case ax =>
   rintro pre x a' ⟨⟩ X Y row ⟨h1, h2, h3, h4⟩ hg hr
   exact ⟨h1, RI.own (Nat.le_refl _) pre X Y row h2 hg hr, ⟨h3.1, row_own h3.2.1 h3.2.2.1 hg hr, h3.2.2⟩, h4⟩
  case assign =>
   rintro l2 pre ⟨qq, rr⟩ X K hI hF hlen hK
   obtain ⟨ra, rn, rc, hrr⟩ := hF.2.2.2
   have hrr : rr = .slice ra rn rc := hrr
   subst hrr
   simp only [encB, List.zip_toArray, List.zip_cons_cons, List.zip_nil_right, List.zip_nil_left, List.foldl_toArray, List.foldl_cons, List.foldl_nil, List.setIfInBounds_toArray, List.set_cons_zero, List.set_cons_succ]
   refine region_in (by kernel_rfl) (fun ⟨_, _, h⟩ => h) (WL.out ?_)
   refine VlS (.slice ra rn rc) ?_
   refine WL.nil ?_
   refine hK _ _ (KeepsFrom.refl _ _) ⟨Below.refl _ _, fun _ _ h => h⟩ ⟨rfl, hI, hF, hlen⟩
  case body =>
   rintro l2 pre ⟨qq, rr⟩ a' X hl - ⟨rfl, hI, hF, hlen⟩
   obtain ⟨ra, rn, rc, hrr⟩ := hF.2.2.2
   have hrr : rr = .slice ra rn rc := hrr
   subst hrr
   show Code.wpIn _ _ _ _ _ { tmps := #[x0, x1, x2, vk, x4, x5, x6, x7, .pointer (some ⟨r8, 0, none⟩), x9, .pointer (some ⟨d, 0, none⟩), .pointer (some ⟨h, 0, none⟩), x12, x13, .pointer (some ⟨b14, 0, none⟩), .int .i64 (sure : Int), x16, x17, x18, x19, x20, .int .i64 (t : Int), .pointer (some ⟨s, 0, none⟩), .int .i64 0, .pointer (some ⟨bn, 0, none⟩), .pointer (some ⟨bi, 0, none⟩), x26, .slice ra rn rc, x28, x29, x30, x31, x32, x33, x34, x35, x36, x37, x38, x39, x40, x41, x42, x43, x44, x45, x46, x47, x48, x49, x50, x51, x52, x53, x54, x55, x56, x57, x58, x59, x60, x61, x62, x63, x64, x65, x66, x67, x68, x69, x70, x71, x72, x73, x74, x75, x76, x77, x78, x79, x80, x81, x82, x83, x84, x85, x86, x87, x88, x89, x90, x91, x92, x93, x94, x95, x96, x97, x98, x99, x100, x101, x102, x103, x104, x105, x106, x107, .pointer (some ⟨h, 0, none⟩), vk, undef, .int .i64 (t : Int), .bool true, y113, y114, .tuple #[.pointer (some ⟨s, 0, none⟩), .int .i64 0], .pointer (some ⟨d, 0, none⟩), .tuple #[.pointer (some ⟨s, 0, none⟩), .int .i64 0], .pointer (some ⟨s, 0, none⟩), .int .i64 0, .pointer (some ⟨s, 0, none⟩), .bool false, .bool false, .int .i64 0, .bool false, .bool false, .pointer (some ⟨s, 0, none⟩), .int .i64 (k : Int), .int .i64 (k : Int), .int .i64 (sure : Int), .bool false, .bool false, .int .i64 (k : Int), .slice va an vc, .int .i64 (an : Int), .bool false, .bool false, .pointer (some ⟨s, 0, none⟩), .func (.func 23) #[] #[.pointer (some ⟨Bs, 0, none⟩)], .agg (bytesA 32 (shaP qq)), .slice ra rn rc, x141, x142, x143, x144, x145, x146, x147, x148, x149, x150, x151, x152, x153, x154, y155, y156, y157, y158, y159, y160, y161], defers := [] } X
   have hpl : pre.length < k := by have := HL.out.2; omega
   have hq : all[pre.length]? = some qq := by
    have h := hF.1
    rw [HL.out.1, List.getElem?_take, if_pos hpl] at h
    exact h
   have hst : (all.map strOfNums)[pre.length]? = some (strOfNums qq) := by rw [List.getElem?_map, hq]; rfl
   obtain ⟨pl, hpl0⟩ : ∃ z, Keep (z = pre.length) := ⟨_, ⟨rfl⟩⟩
   rw [← hpl0.out] at hpl hst
   obtain ⟨st, hst0⟩ : ∃ z, Keep (strOfNums qq = z) := ⟨_, ⟨rfl⟩⟩
   rw [hst0.out] at hst
   obtain ⟨qa, hqa, hqc⟩ := X8.out.at hst
   have HVa : Keep (va = some ⟨qa, 0, none⟩) := ⟨hqa⟩
   have hpl1 : ¬ (k : Int) ≤ (pl : Int) := by omega
   have hpa : pl < an := by have := Hk.out.2; omega
   have hpa' : (pl : Int) < (an : Int) := by omega
   have hp0 : (0 : Int) ≤ (pl : Int) := by omega
   have hbx := hI.1
   rw [← hpl0.out] at hbx
   have HBx := Keep.mk hbx
   have HGx := Keep.mk hI.2.2
   have HRw := Keep.mk hF.2.1
   have c24 : X.cell? ⟨bn, 0, none⟩ = some (.int .i64 (k : Int)) := (HGx.out.blk N7.out (by have := Hbi.out.2.2; omega)).c 0 rfl
   have c14 : X.cell? ⟨b14, 0, none⟩ = some (.slice va an vc) := (HGx.out.blk P7.out (fun e => by subst e; exact absurd (M7.out.typ.one P7.out.typ) (by decide))).c 0 rfl
   have cq : X.cell? ⟨qa, pl, none⟩ = some (.string st) := HGx.out.cell hqc fun e => by
    subst e
    have h1 := T7.out.tt qa (by rw [HVa.out]; rfl) (fun e => by rw [e] at hq; simp at hq)
    exact absurd (h1.one M7.out.typ) (by decide)
   have HS0 : Keep ((X.drew).cell? ⟨bi, 0, none⟩ = some (.int .i64 (pl : Int)) ∧ (X.drew).cell? ⟨bn, 0, none⟩ = some (.int .i64 (k : Int)) ∧ (X.drew).cell? ⟨b14, 0, none⟩ = some (.slice (some ⟨qa, 0, none⟩) an vc) ∧ (X.drew).cell? ⟨qa, pl, none⟩ = some (.string st) ∧ RowAt X.drew (.slice ra rn rc) qq) := ⟨⟨HBx.out.drew.c 0 rfl, c24, by rw [← HVa.out]; exact c14, cq, HRw.out.below (Below.refl _ _).drew⟩⟩
   have Hpn : Keep (pl ≤ 1000000000) := ⟨by have := Hk.out; have := Hlen.out; omega⟩
   have hwp : IntKind.i64.wrap ((pl : Int) + 1) = (pl : Int) + 1 := by rw [IntKind.wrap_i64]; have := Hpn.out; omega
   clear hqa hqc hq hst c24 c14 cq hbx
   refine wpIn_block ?_
   refine wpIn_seq_k fun K16 hK16 => ?_
   refine wpIn_seq_k fun K17 hK17 => ?_
   refine region_in_held (S := fun wx => wx.cell? ⟨bi, 0, none⟩ = some (.int .i64 (pl : Int)) ∧ wx.cell? ⟨bn, 0, none⟩ = some (.int .i64 (k : Int)) ∧ wx.cell? ⟨b14, 0, none⟩ = some (.slice (some ⟨qa, 0, none⟩) an vc) ∧ wx.cell? ⟨qa, pl, none⟩ = some (.string st) ∧ RowAt wx (.slice ra rn rc) qq) (by kernel_rfl) (by kernel_rfl) (fun ⟨_, _, h⟩ => by cases h.1) (HS0.out) (fun hHeld => ?_)
   refine tkS (i := 0) (oi := ⟨some 141, Op.load 3 (Operand.tmp 25), 3, _, _, none⟩) (v := .int .i64 (pl : Int)) rfl (Or.inl ⟨by rfl, fun w hS => by obtain ⟨s1, s2, s3, s4, s5⟩ := hS; clear s5; go_simp⟩) hHeld ?_
   refine tkS (i := 1) (oi := ⟨some 142, Op.load 3 (Operand.tmp 24), 3, _, _, none⟩) (v := .int .i64 (k : Int)) rfl (Or.inl ⟨by rfl, fun w hS => by obtain ⟨s1, s2, s3, s4, s5⟩ := hS; clear s5; go_simp⟩) hHeld ?_
   refine tkS (i := 2) (oi := ⟨some 143, Op.binOp BinOp.geq 3 (Operand.tmp 141) (Operand.tmp 142) 3, 4, _, _, none⟩) (v := .bool false) rfl (Or.inl ⟨by rfl, fun w hS => by obtain ⟨s1, s2, s3, s4, s5⟩ := hS; clear s5; go_simp⟩) hHeld ?_
   refine tkS (i := 3) (oi := ⟨some 144, Op.move (Operand.tmp 143), 4, _, _, none⟩) (v := .bool false) rfl (Or.inl ⟨by rfl, fun w hS => by obtain ⟨s1, s2, s3, s4, s5⟩ := hS; clear s5; go_simp⟩) hHeld ?_
   refine tkS (i := 4) (oi := ⟨some 145, Op.move (Operand.tmp 27), 41, _, _, some (3, false)⟩) (v := .slice ra rn rc) rfl (Or.inl ⟨by rfl, fun w hS => by obtain ⟨s1, s2, s3, s4, s5⟩ := hS; clear s5; go_simp⟩) hHeld ?_
   refine tkS (i := 5) (oi := ⟨some 146, Op.convert 41 9 (Operand.tmp 145), 9, _, _, some (3, false)⟩) (v := .string st) rfl (Or.inl ⟨by rfl, fun w hS => by have h1 := conv_row _ _ w hS.2.2.2.2; rw [hst0.out] at h1; clear hS; go_simp⟩) hHeld ?_
   refine tkS (i := 6) (oi := ⟨some 147, Op.load 35 (Operand.tmp 14), 35, _, _, some (3, false)⟩) (v := .slice (some ⟨qa, 0, none⟩) an vc) rfl (Or.inl ⟨by rfl, fun w hS => by obtain ⟨s1, s2, s3, s4, s5⟩ := hS; clear s5; go_simp⟩) hHeld ?_
   refine tkS (i := 7) (oi := ⟨some 148, Op.load 3 (Operand.tmp 25), 3, _, _, some (3, false)⟩) (v := .int .i64 (pl : Int)) rfl (Or.inl ⟨by rfl, fun w hS => by obtain ⟨s1, s2, s3, s4, s5⟩ := hS; clear s5; go_simp⟩) hHeld ?_
   refine tkS (i := 8) (oi := ⟨some 149, Op.indexAddr 35 (Operand.tmp 147) (Operand.tmp 148), 0, _, _, some (3, false)⟩) (v := .pointer (some ⟨qa, pl, none⟩)) rfl (Or.inl ⟨by rfl, fun w hS => by obtain ⟨s1, s2, s3, s4, s5⟩ := hS; clear s5; go_simp⟩) hHeld ?_
   refine tkS (i := 9) (oi := ⟨some 150, Op.load 9 (Operand.tmp 149), 9, _, _, some (3, false)⟩) (v := .string st) rfl (Or.inl ⟨by rfl, fun w hS => by have h := hS.2.2.2.1; clear hS; go_simp⟩) hHeld ?_
   refine tkS (i := 10) (oi := ⟨some 151, Op.binOp BinOp.neq 9 (Operand.tmp 146) (Operand.tmp 150) 9, 4, _, _, some (3, false)⟩) (v := .bool false) rfl (Or.inl ⟨by rfl, fun w hS => by have h1 := bs_refl st; clear hS; go_simp⟩) hHeld ?_
   refine tkS (i := 11) (oi := ⟨some 152, Op.pick (Operand.tmp 144) (Operand.const (Value.bool true)) (Operand.tmp 151), 4, _, _, none⟩) (v := .bool false) rfl (Or.inl ⟨by rfl, fun w hS => by obtain ⟨s1, s2, s3, s4, s5⟩ := hS; clear s5; go_simp⟩) hHeld ?_
   refine wpAnyH_done (by kernel_rfl) ?_ _
   refine hK17 _ _ ?_
   refine wpIn_cond_false rfl ?_
   refine wpIn_skip ?_
   refine hK16 _ _ ?_
   have HX1 := Keep.mk HBx.out.drew
   have f_o := HX1.out.frozen 0
   have c_o : (X.drew).cell? ⟨bi, 0, none⟩ = some (.int .i64 (pl : Int)) := HX1.out.c 0 rfl
   have HGd : Keep (Grown w7 X.drew fun j => j = bi) := ⟨HGx.out.drew⟩
   have HXs : Keep (X.heap.size = X.drew.heap.size) := ⟨rfl⟩
   have HKd : Keep (KeepsFrom w7.heap.size X X.drew ∧ KpB w2.heap.size X X.drew) := ⟨keeps_grown (S := fun _ => False) (Grown.below (Below.refl _ _).drew) (fun _ h => h.elim) _, (Below.refl _ _).drew, fun j cs hj => hj.drew⟩
   clear HS0 hHeld
   generalize X.drew = X1 at *
   refine region_in (by kernel_rfl) (fun ⟨_, _, h⟩ => by cases h.1) (WL.out ?_)
   refine VlS (.int .i64 (pl : Int)) ?_
   refine VlS (.int .i64 ((pl : Int) + 1)) ?_
   refine WL.cell (by kernel_rfl) (X1.setCell ⟨bi, 0, none⟩ (.int .i64 ((pl : Int) + 1))) (by go_simp) ?_
   clear f_o c_o
   have G2 : Keep (Grown X1 (X1.setCell ⟨bi, 0, none⟩ (.int .i64 ((pl : Int) + 1))) fun j => j = bi) := ⟨Grown.setCell X1 bi 0 _ fun _ => rfl⟩
   have HX2 : Keep (Blk (X1.setCell ⟨bi, 0, none⟩ (.int .i64 ((pl : Int) + 1))) bi 3 #[.int .i64 ((pl : Int) + 1)]) := ⟨HX1.out.set 0 _⟩
   generalize X1.setCell ⟨bi, 0, none⟩ (.int .i64 ((pl : Int) + 1)) = X2 at *
   simp only [Act.put]
   refine WL.nil ?_
   refine ⟨rfl, HKd.out.1.trans (keeps_grown G2.out (fun j e => ⟨_, _, e ▸ HX1.out⟩) _), HKd.out.2.trans ⟨G2.out.to_below (fun j hj e => by have := Hbi.out.1; omega) (by have h1 := HX1.out.lt; have := Hbi.out.1; omega), fun j cs hj => G2.out.blk hj fun e => by subst e; exact absurd (hj.typ.one HX1.out.typ) (by decide)⟩, ?_, ?_, HGd.out.trans G2.out⟩
   ·have e : (((pre ++ [(qq, Value.slice ra rn rc)]).length : Nat) : Int) = (pl : Int) + 1 := by rw [List.length_append, List.length_singleton, hpl0.out]; push_cast; rfl
    rw [e]
    exact HX2.out
   ·rw [List.length_append, List.length_singleton, ← hpl0.out]; omega
  case done =>
   rintro E xs W hE hS hI hKd
   have hxl : xs.length = k := by have h := congrArg List.length hS; rw [List.length_map, List.length_map] at h; rw [h]; exact HL.out.2
   have hiw := hI.1
   rw [hxl] at hiw
   have IW := Keep.mk hiw
   have GW := Keep.mk hI.2.2
   have HE : Keep (W.heap[E]? = some (.deferred (some [])) ∧ w7.heap.size ≤ E) := ⟨hKd, hE⟩
   have TW : Keep (TB w0 W d p r8 b14 all va vc ms) := ⟨T7.out.grown GW.out fun j hj e => by subst e; exact ⟨by have := Hbi.out.1; have := Hw2.out; omega, .inr (.inr (.inr M7.out.typ))⟩⟩
   have DW : Keep (DskAt W p vf2 cs2 D') := ⟨D7.out.grown GW.out fun j hj e => by subst e; rcases hj with h1 | h1 | h1 <;> exact absurd (h1.one M7.out.typ) (by decide)⟩
   have PW : Keep (Blk W b14 35 #[.slice va an vc]) := ⟨GW.out.blk P7.out fun e => by subst e; exact absurd (M7.out.typ.one P7.out.typ) (by decide)⟩
   have c25 : W.cell? ⟨bi, 0, none⟩ = some (.int .i64 (k : Int)) := IW.out.c 0 rfl
   have c24 : W.cell? ⟨bn, 0, none⟩ = some (.int .i64 (k : Int)) := (GW.out.blk N7.out (by have := Hbi.out.2.2; omega)).c 0 rfl
   have c14 : W.cell? ⟨b14, 0, none⟩ = some (.slice va an vc) := PW.out.c 0 rfl
   clear hiw hI hKd hE hS hxl
   show Exit.inBlock 4 (Exit.then _ _) .normal { tmps := #[x0, x1, x2, vk, x4, x5, x6, x7, .pointer (some ⟨r8, 0, none⟩), x9, .pointer (some ⟨d, 0, none⟩), .pointer (some ⟨h, 0, none⟩), x12, x13, .pointer (some ⟨b14, 0, none⟩), .int .i64 (sure : Int), x16, x17, x18, x19, x20, .int .i64 (t : Int), .pointer (some ⟨s, 0, none⟩), .int .i64 0, .pointer (some ⟨bn, 0, none⟩), .pointer (some ⟨bi, 0, none⟩), x26, x27, x28, x29, x30, x31, x32, x33, x34, x35, x36, x37, x38, x39, x40, x41, x42, x43, x44, x45, x46, x47, x48, x49, x50, x51, x52, x53, x54, x55, x56, x57, x58, x59, x60, x61, x62, x63, x64, x65, x66, x67, x68, x69, x70, x71, x72, x73, x74, x75, x76, x77, x78, x79, x80, x81, x82, x83, x84, x85, x86, x87, x88, x89, x90, x91, x92, x93, x94, x95, x96, x97, x98, x99, x100, x101, x102, x103, x104, x105, x106, x107, .pointer (some ⟨h, 0, none⟩), vk, undef, .int .i64 (t : Int), .bool true, y113, y114, .tuple #[.pointer (some ⟨s, 0, none⟩), .int .i64 0], .pointer (some ⟨d, 0, none⟩), .tuple #[.pointer (some ⟨s, 0, none⟩), .int .i64 0], .pointer (some ⟨s, 0, none⟩), .int .i64 0, .pointer (some ⟨s, 0, none⟩), .bool false, .bool false, .int .i64 0, .bool false, .bool false, .pointer (some ⟨s, 0, none⟩), .int .i64 (k : Int), .int .i64 (k : Int), .int .i64 (sure : Int), .bool false, .bool false, .int .i64 (k : Int), .slice va an vc, .int .i64 (an : Int), .bool false, .bool false, .pointer (some ⟨s, 0, none⟩), .func (.func 23) #[] #[.pointer (some ⟨Bs, 0, none⟩)], x139, x140, x141, x142, x143, x144, x145, x146, x147, x148, x149, x150, x151, x152, x153, x154, y155, y156, y157, y158, y159, y160, y161], defers := mkD E :: ms.map mkD } W
   refine hK14 _ _ ?_
   refine wp_seq_k fun K16 hK16 => ?_
   refine wp_seq_k fun K17 hK17 => rgn ?_
   refine VlS (.int .i64 (k : Int)) ?_
   refine VlS (.int .i64 (k : Int)) ?_
   refine VlS (.bool false) ?_
   refine WL.nil (hK17 _ _ ?_)
   refine wp_cond_false rfl ?_
   refine wp_skip ?_
   refine hK16 _ _ ?_
   refine wp_seq_k fun K18 hK18 => rgn ?_
   refine VlS (.int .i64 (k : Int)) ?_
   refine VlS (.int .i64 (k : Int)) ?_
   refine WL.nil (hK18 _ _ ?_)
   refine rgn ?_
   refine VlS (.slice va an vc) ?_
   refine VlS (.int .i64 (k : Int)) ?_
   refine WL.slHiT (by kernel_rfl) (.tmp 159) (.tmp 160) rfl _ _ (.slice va k vc) rfl rfl (sl_runT va an vc k (X8.out.take k (by rw [List.length_map, ← han.out]; exact Hk.out.2)).2 W) ?_
   simp only [Act.put, pqA, pqB, pqC]
   have f_o := PW.out.frozen 0
   refine WL.cell (by kernel_rfl) (W.setCell ⟨b14, 0, none⟩ (.slice va k vc)) (by go_simp) ?_
   clear f_o
   have G9 : Keep (Grown W (W.setCell ⟨b14, 0, none⟩ (.slice va k vc)) fun j => j = b14) := ⟨Grown.setCell W b14 0 _ fun _ => rfl⟩
   have P9 : Keep (Blk (W.setCell ⟨b14, 0, none⟩ (.slice va k vc)) b14 35 #[.slice va k vc]) := ⟨PW.out.set 0 _⟩
   generalize W.setCell ⟨b14, 0, none⟩ (.slice va k vc) = w9 at *
   simp only [Act.put]
   refine WL.nil (hK6 _ _ ?_)
   refine rgn ?_
   refine VlS (.int .i64 (t : Int)) ?_
   refine VlS (.int .i64 ((t : Int) + 1)) ?_
   refine VlS (.int .i64 ((t : Int) + 1)) ?_
   refine WL.nil ?_
   refine ⟨⟨t + 1, .pointer (some ⟨s, 0, none⟩), .int .i64 0, .pointer (some ⟨bn, 0, none⟩), .pointer (some ⟨bi, 0, none⟩), .int .i64 (t : Int), .bool true, .int .i64 (t : Int), .int .i64 ((t : Int) + 1), .tuple #[.pointer (some ⟨s, 0, none⟩), .int .i64 0], .pointer (some ⟨d, 0, none⟩), .tuple #[.pointer (some ⟨s, 0, none⟩), .int .i64 0], .pointer (some ⟨s, 0, none⟩), .int .i64 0, .pointer (some ⟨s, 0, none⟩), .bool false, .bool false, .int .i64 0, .bool false, .bool false, .pointer (some ⟨s, 0, none⟩), .int .i64 (k : Int), .int .i64 (k : Int), .int .i64 (sure : Int), .bool false, .bool false, .int .i64 (k : Int), .slice va an vc, .int .i64 (an : Int), .bool false, .bool false, .pointer (some ⟨s, 0, none⟩), .func (.func 23) #[] #[.pointer (some ⟨Bs, 0, none⟩)], .int .i64 (k : Int), .int .i64 (k : Int), .bool false, .int .i64 (k : Int), .slice va an vc, .int .i64 (k : Int), .slice va k vc, k, all.take k, va, vc, E :: ms, D', vf2, cs2, rfl, by omega, ?_, ?_⟩, by simp only [intOf]; show 2 - ((t : Int) + 1).toNat < 2 - ((t : Int)).toNat; omega⟩
   ·have hlk : (all.take k).length = k := by rw [List.length_take, ← han.out]; have := Hk.out; omega
    have hpr : ∀ {j : Nat} {T : TypeId} {cs : Array Value}, Blk W j T cs → T ≠ 35 → ¬ j = b14 := fun hj hT e => by subst e; exact hT (hj.typ.one PW.out.typ)
    have h9t : ∀ j, Typ W j 9 → ¬ j = b14 := fun j hj e => by subst e; exact absurd (hj.one PW.out.typ) (by decide)
    have hlb := TW.out.lb
    have hsz := TW.out.bel.size
    have htk := TW.out.tx
    rw [← han.out] at htk
    refine ⟨⟨TW.out.tab.grown G9.out (fun e => by have := TW.out.pos; omega), TW.out.pos, TW.out.bel.trans (G9.out.to_below (fun j hj e => by omega) hsz), G9.out.blk TW.out.rb (hpr TW.out.rb (by decide)), TW.out.lr, by rw [hlk]; exact P9.out, TW.out.lb, ?_, fun j hj hn => ?_, G9.out.blk TW.out.dk (hpr TW.out.dk (by decide)), List.nodup_cons.2 ⟨fun hE => ?_, TW.out.nd⟩, fun F hF => ?_⟩, DW.out.grown G9.out (fun j hj e => ?_), L2.out, HR.out, Hdis.out.take k, by rw [hlk]; have := Hk.out; have := Hlen.out; omega⟩
    ·rw [hlk, List.map_take]
     refine (htk.take k (by rw [List.length_map, ← han.out]; exact Hk.out.2)).1.grown G9.out fun j hj hn => h9t j (TW.out.tt j (by cases va <;> exact hj) fun e => hn (by rw [e]; simp))
    ·have h1 := TW.out.tt j (by cases va <;> exact hj) fun e => hn (by rw [e]; simp)
     obtain ⟨cs', fz, h2⟩ := h1
     exact ⟨cs', fz, by rw [G9.out.block j (Array.getElem?_eq_some_iff.1 h2).1 (h9t j ⟨cs', fz, h2⟩)]; exact h2⟩
    ·have h1 := (T7.out.mz E hE).1
     have := (Array.getElem?_eq_some_iff.1 h1).1
     have := HE.out.2
     omega
    ·rcases List.mem_cons.1 hF with rfl | hF
     ·refine ⟨?_, by have := HE.out.2; have := T7.out.bel.size; omega⟩
      rw [G9.out.block F (Array.getElem?_eq_some_iff.1 HE.out.1).1 fun e => ?_]
      ·exact HE.out.1
      ·subst e
       have h1 := PW.out
       unfold Blk at h1
       rw [HE.out.1] at h1
       cases h1
     ·have h1 := TW.out.mz F hF
      refine ⟨?_, h1.2⟩
      rw [G9.out.block F (Array.getElem?_eq_some_iff.1 h1.1).1 fun e => ?_]
      ·exact h1.1
      ·subst e
       have h2 := PW.out
       unfold Blk at h2
       rw [h1.1] at h2
       cases h2
    ·subst e
     rcases hj with h1 | h1 | h1 <;> exact absurd (h1.one PW.out.typ) (by decide)
   ·have := HAc.out; have := Hac2.out; push_cast; omega
 ·have htl' : ¬ (t : Int) < 2 := by omega
  refine wp_seq_k fun K16 hK16 => ?_
  refine wp_seq_k fun K17 hK17 => rgn ?_
  refine VlS (.int .i64 (t : Int)) ?_
  refine VlS (.bool false) ?_
  refine WL.nil (hK17 _ _ ?_)
  refine wp_cond_false rfl ?_
  refine wp_exit ?_
  refine hK2 _ _ ?_
  refine wp_seq_k fun K18 hK18 => rgn ?_
  have f_o := HI.out.tb.rb.frozen 0
  have c_o : wr.cell? ⟨r8, 0, none⟩ = some (.bool false) := HI.out.tb.rb.c 0 rfl
  refine WL.cell (by kernel_rfl) (wr.setCell ⟨r8, 0, none⟩ (.bool true)) (by go_simp) ?_
  clear f_o c_o
  have G9 : Keep (Grown wr (wr.setCell ⟨r8, 0, none⟩ (.bool true)) fun j => j = r8) := ⟨Grown.setCell wr r8 0 _ fun _ => rfl⟩
  have R9 : Keep (Blk (wr.setCell ⟨r8, 0, none⟩ (.bool true)) r8 4 #[.bool true]) := ⟨HI.out.tb.rb.set 0 _⟩
  generalize wr.setCell ⟨r8, 0, none⟩ (.bool true) = w9 at *
  simp only [Act.put]
  refine WL.nil (hK18 _ _ ?_)
  refine wp_ret ?_
  refine leaves_marks ms w9 HI.out.tb.nd (fun E hE => ?_) fun w' hw' => ⟨_, results_bool Tryd.results3 _ w' r8 true rfl (hw'.blk R9.out fun hE => ?_), rfl, (HI.out.tb.bel.trans (G9.out.to_below (fun j hj e => by have := HI.out.tb.lr; omega) HI.out.tb.bel.size)).trans (hw'.to_below (fun j hj hE => by have := (HI.out.tb.mz j hE).2; omega) (by have := HI.out.tb.bel.size; have := G9.out.size; omega))⟩
  ·have h1 := (HI.out.tb.mz E hE).1
   rw [G9.out.block E (Array.getElem?_eq_some_iff.1 h1).1 fun e => ?_]
   ·exact h1
   ·subst e
    have h2 := HI.out.tb.rb
    unfold Blk at h2
    rw [h1] at h2
    cases h2
  ·have h1 := (HI.out.tb.mz r8 hE).1
   have h2 := HI.out.tb.rb
   unfold Blk at h2
   rw [h1] at h2
   cases h2
def BolsAt (w : World) (v : Value) (l : List Bool) : Prop :=
 (∃ a c, v = .slice a 0 c ∧ l = []) ∨ ∃ q o c, v = .slice (some ⟨q, o, none⟩) l.length c ∧ ∀ i x, l[i]? = some x → w.cell? ⟨q, o + i, none⟩ = some (.bool x)
theorem BolsAt.form {w : World} {v : Value} {l : List Bool} (h : BolsAt w v l) : ∃ a c, v = .slice a l.length c := by
 rcases h with ⟨a, c, rfl, rfl⟩ | ⟨q, o, c, rfl, _⟩
 ·exact ⟨_, _, rfl⟩
 ·exact ⟨_, _, rfl⟩
theorem BolsAt.at {w w' : World} {a : Option Addr} {n c : Nat} {l : List Bool} (h : BolsAt w (.slice a n c) l) (hb : Below w.heap.size w w') {i : Nat} {x : Bool} (hx : l[i]? = some x) : ∃ q o, a = some ⟨q, o, none⟩ ∧ w'.cell? ⟨q, o + i, none⟩ = some (.bool x) := by
 rcases h with ⟨a', c', e, rfl⟩ | ⟨q, o, c', e, h2⟩
 ·simp at hx
 ·injection e with e1 e2 e3
  exact ⟨q, o, e1, by have h3 := h2 i x hx; rw [hb.cell (p := ⟨q, o + i, none⟩) (cell_lt h3)]; exact h3⟩
structure LC (w wr : World) (d h p r8 b14 : Nat) (pa : Option Addr) (pc : Nat) (pt : List (List Int)) (U : Nat → Prop) : Prop where
 tab : Tab wr
 pos : 0 < w.heap.size
 bel : Below w.heap.size w wr
 rb : Blk wr r8 4 #[.bool false]
 lr : w.heap.size ≤ r8
 pb : Blk wr b14 35 #[.slice pa pt.length pc]
 lb : w.heap.size ≤ b14
 os : OwnS wr (.slice pa pt.length pc) (pt.map strOfNums)
 ol : ∀ k, (Value.slice pa pt.length pc).ownBlock = some k → w.heap.size ≤ k ∧ k ≠ b14
 dk : Blk wr d 53 #[ptr p]
 hh : Blk wr h 55 #[ptr p]
 u : ∀ k, U k → w.heap.size ≤ k ∧ k < wr.heap.size ∧ k ≠ r8 ∧ k ≠ b14 ∧ k ≠ d ∧ k ≠ h ∧ (Value.slice pa pt.length pc).ownBlock ≠ some k
theorem OwnS.lt {w : World} {v : Value} {l : List ByteArray} (h : OwnS w v l) : ∀ k, v.ownBlock = some k → k < w.heap.size := fun k hk => (World.ownsRow.lt h k hk).2
theorem LC.step {w wr w' : World} {d h p r8 b14 : Nat} {pa : Option Addr} {pc : Nat} {pt : List (List Int)} {U : Nat → Prop} (l : LC w wr d h p r8 b14 pa pc pt U) (hg : Grown wr w' U) : LC w w' d h p r8 b14 pa pc pt (JN2 U wr.heap.size w'.heap.size) := by
 have hs := l.bel.size
 refine ⟨l.tab.grown hg (fun e => by have := (l.u 0 e).1; have := l.pos; omega), l.pos, l.bel.trans (hg.to_below (fun k hk e => by have := (l.u k e).1; omega) hs), hg.blk l.rb (fun e => (l.u _ e).2.2.1 rfl), l.lr, hg.blk l.pb (fun e => (l.u _ e).2.2.2.1 rfl), l.lb, l.os.grown hg (fun k hk e => (l.u k e).2.2.2.2.2.2 hk), l.ol, hg.blk l.dk (fun e => (l.u _ e).2.2.2.2.1 rfl), hg.blk l.hh (fun e => (l.u _ e).2.2.2.2.2.1 rfl), fun k hk => ?_⟩
 rcases hk.1 with h1 | h1
 ·have h2 := l.u k h1
  exact ⟨h2.1, hk.2, h2.2.2⟩
 ·have a1 := l.rb.lt
  have a2 := l.pb.lt
  have a3 := l.dk.lt
  have a4 := l.hh.lt
  exact ⟨by omega, hk.2, by omega, by omega, by omega, by omega, fun e => by have := l.os.lt k e; omega⟩
theorem LC.below {w wr w' : World} {d h p r8 b14 : Nat} {pa : Option Addr} {pc : Nat} {pt : List (List Int)} {U : Nat → Prop} (l : LC w wr d h p r8 b14 pa pc pt U) (hb : Below wr.heap.size wr w') : LC w w' d h p r8 b14 pa pc pt U := by
 have hg : Grown wr w' fun _ => False := Grown.below hb
 refine ⟨l.tab.grown hg (fun e => e), l.pos, l.bel.trans (hb.mono l.bel.size), hg.blk l.rb (fun e => e), l.lr, hg.blk l.pb (fun e => e), l.lb, l.os.below hb, l.ol, hg.blk l.dk (fun e => e), hg.blk l.hh (fun e => e), fun k hk => ⟨(l.u k hk).1, by have := (l.u k hk).2.1; have := hb.size; omega, (l.u k hk).2.2⟩⟩
theorem LC.tb {w wr : World} {d h p r8 b14 : Nat} {pa : Option Addr} {pc : Nat} {pt : List (List Int)} {U : Nat → Prop} (l : LC w wr d h p r8 b14 pa pc pt U) : TB w wr d p r8 b14 pt pa pc [] :=
 ⟨l.tab, l.pos, l.bel, l.rb, l.lr, l.pb, l.lb, by have h := l.os.tx; exact h, fun k hk _ => l.os.typ hk, l.dk, List.nodup_nil, fun E hE => by cases hE⟩
theorem Tryd.newTx (w : World) : (Instr.alloc 35 true (.tuple #[])).run Tryd.prog w = .ok (.pointer (some ⟨w.heap.size, 0, none⟩)) (w.alloc (.cells #[.slice none 0 0] 35)) := by kernel_rfl
theorem Tryd.newBool (w : World) : (Instr.alloc 4 true (.tuple #[])).run Tryd.prog w = .ok (.pointer (some ⟨w.heap.size, 0, none⟩)) (w.alloc (.cells #[.bool false] 4)) := by kernel_rfl
theorem wp_appT {Q : Exit → Act → World → Prop} {o : Oper} {a : Act} {w : World} {K : Act → World → Prop} (s x : Operand)
  (ho : o.op = .call { callee := .builtin .append, args := #[s, x], argTypes := #[35, 35] }) (v : Value) (l : List ByteArray) (g c : Nat) (y : ByteArray)
  (hs : a.eval s = v) (hx : a.eval x = .slice (some ⟨g, 0, none⟩) 1 c) (hown : OwnS w v l) (hg : Blk w g 9 #[.string y]) (hb : l.length ≤ 1000000000000)
  (h : ∀ v' w', OwnS w' v' (l ++ [y]) → (Grown w w' fun k => v.ownBlock = some k) → Moved w v v' → K (a.put o.dst v') w') : o.wp Tryd.prog a w K Q := by
 obtain ⟨v', w', hr, h1, h2, h3⟩ := run_appT w o.type v l hown g c y hg hb
 unfold Oper.wp execOp
 simp only [ho, resolve, invoke, builtin, Sem.run_bind, Sem.run_pure, Result.andThen_ok, List.map_toArray, List.map_cons, List.map_nil, hs, hx, hr]
 exact h v' w' h1 h2 h3
def Dfu (n : Int) : DV := { Dnew 1073741824 with fuse := max (-1) n }
theorem jx_new (n : Int) (hn : n ≤ 9223372036854775807) : JX (Dfu n) JV.nil false 0 := by
 have hlk : ∀ m, lk (Dfu n).fs m = none := fun m => rfl
 refine ⟨⟨⟨List.Pairwise.nil, Nat.zero_le _, fun f hf => (by cases hf), fun f hf => (by cases hf), rfl, (by show (0 : Int) ≤ 1000000000; omega), Int.le_refl _, (by show (-1 : Int) ≤ max (-1) n ∧ max (-1) n ≤ 9223372036854775807; omega)⟩, openV_zero (Fk_none (hlk _)), rfl, fun _ _ _ => hlk _, fun f hf => (by cases hf), fun j f _ h => (by rw [hlk] at h; cases h), (by show (1073741824 : Int) ≤ 1073741824 ∧ (1073741824 : Int) ≤ 1099511627776; omega), fun f hf => (by cases hf)⟩, ?_, fun _ => ?_, (fun h => by cases h), rfl⟩
 ·exact ⟨Nat.le_refl _, fun m f hm _ => by have : (-1 : Int) = (m : Int) := hm; omega⟩
 ·exact ⟨Nat.le_refl _, fun m f hm _ => by have : (-1 : Int) = (m : Int) := hm; omega⟩
theorem fuse_sd (s g m d p h : Nat) (n : Int) (D : DV) (V : JV) (la : Bool) (U : Nat → Prop) (w : World) (hH : Blk w h 55 #[ptr p]) (hS : SD w s g m d p D V la U) (hd : ¬ U d) : Calls Tryd.prog 7 #[ptr h, .int .i64 n] w fun e w' => e = .returned (.tuple #[]) ∧ SD w' s g m d p { D with fuse := max (-1) n } V la U ∧ Grown w w' U := by
 obtain ⟨vl, L, N, h1, h2, ⟨j1, vf, cs, vp, j2, j3, j4, j5⟩, h4, h5, h6⟩ := hS
 have hNp := j5 p (.inl (.inl rfl))
 refine (fuse_any h p n vf cs D w hH j2).mono ?_
 rintro e w' ⟨rfl, a1, a2⟩
 have hdp : ¬ d = p := fun e => hd (e ▸ (h4 p hNp).1)
 refine ⟨rfl, ⟨vl, L, N, h1.grown a2 (fun k hk e => (h4 p hNp).2 (e ▸ hk)), h2, ⟨a2.blk j1 hdp, vf, cs, vp, a1, a2.blk j3 (fun e => absurd (j3.typ.one (e ▸ j2.blk.typ)) (by decide)), j4.grown a2 (fun k hk e => absurd ((j4.typ hk).one (e ▸ j2.blk.typ)) (by decide)), j5⟩, h4, h5, h6⟩, a2.mono fun k _ e => e ▸ (h4 p hNp).1⟩
def fstS : Code → Code
 | .seq x _ => x
 | c => c
def blkS : Code → Code
 | .block _ c => c
 | c => c
def lopS : Code → Code
 | .loop c => c
 | c => c
def thnS : Code → Code
 | .cond _ x _ => x
 | c => c
set_option maxRecDepth 8000 in
set_option maxHeartbeats 4000000 in
theorem put15 {w wq : World} {d h p r8 b14 pc n t lq lo ln lc rn rc : Nat} {pa ra : Option Addr} {pt : List (List Int)} {qq : List Int} {U : Nat → Prop} {KK : Act → World → Prop} {x1 x2 x3 x4 x5 x6 x7 x8 x9 x10 x11 x12 x13 x15 x17 x18 x19 x20 x21 x22 x23 x24 x25 x26 x27 x28 x29 x30 x31 x32 x33 x34 x35 x36 x37 x38 x39 x40 x41 x42 x43 x44 x45 x46 x47 x48 x49 x50 x51 x52 x53 x54 x55 x56 x57 x58 x59 x60 x61 x62 x63 x64 x65 x66 x67 x68 x69 x70 x71 x72 x73 x74 x75 x76 x77 x78 x79 x80 x81 x82 x83 x84 x85 x86 x87 x88 x89 x90 x91 x92 x93 x94 x95 x96 x97 x98 x99 x100 x101 x102 x103 x104 x105 x106 x107 x108 x109 x110 x111 x112 x113 x114 x115 x116 x117 x118 x119 x120 x121 x122 x123 x124 x125 x126 x127 x128 x129 x130 x131 x132 x133 x134 x135 x136 x137 x138 x139 x140 x141 x142 x143 x144 x145 x146 x147 x148 x149 x150 x151 x152 x153 x154 x155 x156 x157 x158 x159 x160 x161 : Value}
  (hC : LC w wq d h p r8 b14 pa pc pt U) (hn0 : n = pt.length) (hFew : n ≤ 285216768) (hlt : t < ln) (hL : ∀ wx : World, Below w.heap.size w wx → wx.cell? ⟨lq, lo + t, none⟩ = some (.slice ra rn rc) ∧ RowAt wx (.slice ra rn rc) qq)
  (hkk : ∀ (z80 z81 z82 z83 z84 z85 z86 z87 : Value) (w10 : World) (xa : Option Addr) (xc : Nat), LC w w10 d h p r8 b14 xa xc (pt ++ [qq]) U → (Grown wq w10 fun k => (Value.slice pa n pc).ownBlock = some k ∨ k = b14) → KK { tmps := #[.slice (some ⟨lq, lo, none⟩) ln lc, x1, x2, x3, x4, x5, x6, x7, x8, x9, x10, x11, x12, x13, .pointer (some ⟨b14, 0, none⟩), x15, .int .i64 (t : Int), x17, x18, x19, x20, x21, x22, x23, x24, x25, x26, x27, x28, x29, x30, x31, x32, x33, x34, x35, x36, x37, x38, x39, x40, x41, x42, x43, x44, x45, x46, x47, x48, x49, x50, x51, x52, x53, x54, x55, x56, x57, x58, x59, x60, x61, x62, x63, x64, x65, x66, x67, x68, x69, x70, x71, x72, x73, x74, x75, x76, x77, x78, x79, z80, z81, z82, z83, z84, z85, z86, z87, x88, x89, x90, x91, x92, x93, x94, x95, x96, x97, x98, x99, x100, x101, x102, x103, x104, x105, x106, x107, x108, x109, x110, x111, x112, x113, x114, x115, x116, x117, x118, x119, x120, x121, x122, x123, x124, x125, x126, x127, x128, x129, x130, x131, x132, x133, x134, x135, x136, x137, x138, x139, x140, x141, x142, x143, x144, x145, x146, x147, x148, x149, x150, x151, x152, x153, x154, x155, x156, x157, x158, x159, x160, x161], defers := [] } w10) :
  Code.wp Tryd.prog (thnS (sndS (fstS (sndS (sndS (blkS (fstS (sndS (lopS (blkS (sndS (fstS (sndS (sndS (sndS (sndS (sndS (sndS (sndS (sndS (bodyC Tryd.f3))))))))))))))))))))) (Exit.then KK fun _ _ _ => False) { tmps := #[.slice (some ⟨lq, lo, none⟩) ln lc, x1, x2, x3, x4, x5, x6, x7, x8, x9, x10, x11, x12, x13, .pointer (some ⟨b14, 0, none⟩), x15, .int .i64 (t : Int), x17, x18, x19, x20, x21, x22, x23, x24, x25, x26, x27, x28, x29, x30, x31, x32, x33, x34, x35, x36, x37, x38, x39, x40, x41, x42, x43, x44, x45, x46, x47, x48, x49, x50, x51, x52, x53, x54, x55, x56, x57, x58, x59, x60, x61, x62, x63, x64, x65, x66, x67, x68, x69, x70, x71, x72, x73, x74, x75, x76, x77, x78, x79, x80, x81, x82, x83, x84, x85, x86, x87, x88, x89, x90, x91, x92, x93, x94, x95, x96, x97, x98, x99, x100, x101, x102, x103, x104, x105, x106, x107, x108, x109, x110, x111, x112, x113, x114, x115, x116, x117, x118, x119, x120, x121, x122, x123, x124, x125, x126, x127, x128, x129, x130, x131, x132, x133, x134, x135, x136, x137, x138, x139, x140, x141, x142, x143, x144, x145, x146, x147, x148, x149, x150, x151, x152, x153, x154, x155, x156, x157, x158, x159, x160, x161], defers := [] } wq := by
 have CQ := Keep.mk hC
 have hn := Keep.mk hn0
 have Hfew := Keep.mk hFew
 have HLc := Keep.mk hL
 have hlt' : (t : Int) < (ln : Int) := by omega
 have ht0 : (0 : Int) ≤ (t : Int) := by omega
 clear hC hn0 hFew hL
 generalize hg : (Exit.then KK fun _ _ _ => False) = QQ
 unfold Tryd.f3
 simp only [bodyC, sndS, fstS, blkS, lopS, thnS]
 subst hg
 have hpb := CQ.out.pb
 have hos := CQ.out.os
 rw [← hn.out] at hpb hos
 have C7 : Keep (LC w wq.drew d h p r8 b14 pa pc pt U) := ⟨CQ.out.below (Below.refl _ _).drew⟩
 have P7 : Keep (Blk wq.drew b14 35 #[.slice pa n pc]) := ⟨hpb.drew⟩
 have O7 : Keep (OwnS wq.drew (.slice pa n pc) (pt.map strOfNums)) := ⟨hos.below (Below.refl _ _).drew⟩
 have G7 : Keep (Grown wq wq.drew fun _ => False) := ⟨(Grown.refl _ _).drew⟩
 clear hpb hos
 obtain ⟨st, hst⟩ : ∃ z, Keep (strOfNums qq = z) := ⟨_, ⟨rfl⟩⟩
 have HSx : Keep (∀ wx : World, Below w.heap.size w wx → wx.cell? ⟨lq, lo + t, none⟩ = some (.slice ra rn rc) ∧ RowAt wx (.slice ra rn rc) qq) := ⟨HLc.out⟩
 refine wp_region_held_drew (S := fun wx => wx.cell? ⟨lq, lo + t, none⟩ = some (.slice ra rn rc) ∧ RowAt wx (.slice ra rn rc) qq) (by kernel_rfl) (HSx.out _ C7.out.bel) (fun hHeld => ?_)
 generalize wq.drew = w7 at *
 refine tkS (i := 1) (oi := ⟨some 81, Op.move (Operand.tmp 0), 22, _, _, none⟩) (v := .slice (some ⟨lq, lo, none⟩) ln lc) rfl (Or.inl ⟨by rfl, fun w hS => by go_simp⟩) hHeld ?_
 refine tkS (i := 2) (oi := ⟨some 82, Op.move (Operand.tmp 16), 3, _, _, none⟩) (v := .int .i64 (t : Int)) rfl (Or.inl ⟨by rfl, fun w hS => by go_simp⟩) hHeld ?_
 refine tkS (i := 3) (oi := ⟨some 83, Op.indexAddr 22 (Operand.tmp 81) (Operand.tmp 82), 0, _, _, none⟩) (v := .pointer (some ⟨lq, lo + t, none⟩)) rfl (Or.inl ⟨by rfl, fun w hS => by go_simp⟩) hHeld ?_
 refine tkS (i := 4) (oi := ⟨some 84, Op.load 41 (Operand.tmp 83), 41, _, _, none⟩) (v := .slice ra rn rc) rfl (Or.inl ⟨by rfl, fun w hS => by have h := hS.1; clear hS; go_simp⟩) hHeld ?_
 refine tkS (i := 5) (oi := ⟨some 85, Op.convert 41 9 (Operand.tmp 84), 9, _, _, none⟩) (v := .string st) rfl (Or.inl ⟨by rfl, fun w hS => by have h1 := conv_row _ _ w hS.2; rw [hst.out] at h1; clear hS; go_simp⟩) hHeld ?_
 refine wpAnyH_ready (rs := [0, 6]) (by kernel_rfl) (by simp) ?_
 refine AllReadyH.cons (o := ⟨some 80, Op.load 35 (Operand.tmp 14), 35, _, _, none⟩) rfl (fun K hK => ?_) (AllReadyH.cons (o := ⟨some 86, Op.buildSlice 35 1 #[(0, Operand.tmp 85)], 35, _, _, none⟩) rfl (fun K hK => ?_) AllReadyH.nil)
 all_goals rw [if_pos (by rfl)]
 ·have cl : w7.cell? ⟨b14, 0, none⟩ = some (.slice pa n pc) := P7.out.c 0 rfl
  refine wp_val (.slice pa n pc) (by go_simp) ?_
  clear cl
  refine hK _ _ (HSx.out _ C7.out.bel) fun hL7 => ?_
  clear hK
  simp only [Act.put, pqA, pqB, pqC]
  refine wpAnyH_ready (rs := [6]) (by kernel_rfl) (by simp) ?_
  refine AllReadyH.cons (o := ⟨some 86, Op.buildSlice 35 1 #[(0, Operand.tmp 85)], 35, _, _, none⟩) rfl (fun K hK => ?_) AllReadyH.nil
  rw [if_pos (by rfl)]
  refine wp_bs 35 1 _ rfl #[(0, .string st)] (by simp [Act.eval]) _ _ (bsT st w7) ?_
  have hbx := below_new w7 (.cells #[.string st] 9)
  have HB8 := Keep.mk (Blk.new w7 9 #[.string st])
  have P8 := Keep.mk (P7.out.below hbx P7.out.lt)
  have O8 := Keep.mk (O7.out.below hbx)
  have C8 := Keep.mk (C7.out.below hbx)
  have G8 : Keep (Grown wq (w7.alloc (.cells #[.string st] 9)) fun _ => False) := ⟨G7.out.trans (Grown.below hbx)⟩
  clear hbx
  generalize w7.alloc (.cells #[.string st] 9) = w8 at *
  obtain ⟨g8, hg8⟩ : ∃ z, Keep (z = w7.heap.size) := ⟨_, ⟨rfl⟩⟩
  rw [← hg8.out] at HB8 ⊢
  refine hK _ _ (HSx.out _ C8.out.bel) fun hB8 => ?_
  clear hK
  simp only [Act.put, pqA, pqB, pqC]
  refine wpAnyH_ready (rs := [7]) (by kernel_rfl) (by simp) ?_
  refine AllReadyH.cons (o := ⟨some 87, Op.call { callee := Callee.builtin Builtin.append, args := #[Operand.tmp 80, Operand.tmp 86], argTypes := #[35, 35] }, 35, _, _, none⟩) rfl (fun K hK => ?_) AllReadyH.nil
  rw [if_pos (by rfl)]
  refine wp_appT (.tmp 80) (.tmp 86) rfl (.slice pa n pc) (pt.map strOfNums) g8 1 st rfl rfl O8.out HB8.out (by rw [List.length_map, ← hn.out]; have := Hfew.out; omega) fun v9 w9 h1 h2 h3 => ?_
  obtain ⟨xa, xc, hv9⟩ := h1.sl
  have hl9 : (pt.map strOfNums ++ [st]).length = n + 1 := by rw [List.length_append, List.length_singleton, List.length_map, ← hn.out]
  rw [hl9] at hv9
  subst hv9
  have O9 := Keep.mk h1
  have G9 := Keep.mk h2
  have M9 := Keep.mk h3
  clear h1 h2 h3 hl9
  have hob : (.slice pa n pc : Value).ownBlock ≠ some b14 := fun e => absurd ((O8.out.typ e).one P8.out.typ) (by decide)
  have P9 : Keep (Blk w9 b14 35 #[.slice pa n pc]) := ⟨G9.out.blk P8.out hob⟩
  have B9 : Keep (Below w.heap.size w w9) := ⟨C8.out.bel.trans (G9.out.to_below (fun k hk e => by have := (C8.out.ol k (by rw [← hn.out]; exact e)).1; omega) C8.out.bel.size)⟩
  refine hK _ _ (HSx.out _ B9.out) fun hA9 => ?_
  clear hK hob
  simp only [Act.put, pqA, pqB, pqC]
  refine wpAnyH_ready (rs := [8]) (by kernel_rfl) (by simp) ?_
  refine AllReadyH.cons (o := ⟨none, Op.store 35 (Operand.tmp 14) (Operand.tmp 87), 0, _, _, none⟩) rfl (fun K hK => ?_) AllReadyH.nil
  rw [if_pos (by rfl)]
  have f_o := P9.out.frozen 0
  have c_o : w9.cell? ⟨b14, 0, none⟩ = some (.slice pa n pc) := P9.out.c 0 rfl
  refine wp_cellS (w9.setCell ⟨b14, 0, none⟩ (.slice xa (n + 1) xc)) (by go_simp) ?_
  clear f_o c_o
  have P10 : Keep (Blk (w9.setCell ⟨b14, 0, none⟩ (.slice xa (n + 1) xc)) b14 35 #[.slice xa (n + 1) xc]) := ⟨P9.out.set 0 _⟩
  have G10 : Keep (Grown w9 (w9.setCell ⟨b14, 0, none⟩ (.slice xa (n + 1) xc)) fun k => k = b14) := ⟨Grown.setCell w9 b14 0 _ fun _ => rfl⟩
  generalize w9.setCell ⟨b14, 0, none⟩ (.slice xa (n + 1) xc) = w10 at *
  have GT : Keep (Grown wq w10 fun k => (.slice pa n pc : Value).ownBlock = some k ∨ k = b14) := ⟨((G8.out.mono fun k _ e => e.elim).trans (G9.out.mono fun k _ e => .inl e)).trans (G10.out.mono fun k _ e => .inr e)⟩
  have C10 : Keep (LC w w10 d h p r8 b14 xa xc (pt ++ [qq]) U) := ⟨by
   have hs8 := C8.out.bel.size
   have GX : Grown w8 w10 fun k => (.slice pa n pc : Value).ownBlock = some k ∨ k = b14 := (G9.out.mono fun k _ e => .inl e).trans (G10.out.mono fun k _ e => .inr e)
   have hl : (pt ++ [qq]).length = n + 1 := by rw [List.length_append, List.length_singleton, ← hn.out]
   have hmp : (pt ++ [qq]).map strOfNums = pt.map strOfNums ++ [st] := by rw [List.map_append, ← hst.out]; rfl
   have hol : ∀ k, (.slice pa n pc : Value).ownBlock = some k → w.heap.size ≤ k ∧ k ≠ b14 := fun k hk => C8.out.ol k (by rw [← hn.out]; exact hk)
   have hbk : ∀ {k : Nat} {T : TypeId} {cs : Array Value}, Blk w8 k T cs → T ≠ 9 ∧ T ≠ 35 → Blk w10 k T cs := fun hk hT => GX.blk hk fun e => by
    rcases e with e | rfl
    ·exact hT.1 (hk.typ.one (O8.out.typ e))
    ·exact hT.2 (hk.typ.one P8.out.typ)
   have hnw : ∀ k, (.slice xa (n + 1) xc : Value).ownBlock = some k → (.slice pa n pc : Value).ownBlock = some k ∨ w8.heap.size ≤ k := fun k hk => by
    rcases M9.out with e | ⟨j, e, hj⟩
    ·rw [hk] at e; exact .inl e.symm
    ·rw [hk] at e; right; have := Option.some.inj e; omega
   have hb8 := P8.out.lt
   have hos10 : OwnS w10 (.slice xa (n + 1) xc) (pt.map strOfNums ++ [st]) := O9.out.grown G10.out fun k hk e => by subst e; exact absurd ((O9.out.typ hk).one P9.out.typ) (by decide)
   refine ⟨C8.out.tab.grown GX (fun e => ?_), C8.out.pos, C8.out.bel.trans (GX.to_below (fun k hk e => ?_) hs8), hbk C8.out.rb (by decide), C8.out.lr, by rw [hl]; exact P10.out, C8.out.lb, by rw [hl, hmp]; exact hos10, fun k hk => ?_, hbk C8.out.dk (by decide), hbk C8.out.hh (by decide), fun k hk => ?_⟩
   ·have hp := C8.out.pos
    rcases e with e | e
    ·have := (hol 0 e).1; omega
    ·have := C8.out.lb; omega
   ·rcases e with e | e
    ·have := (hol k e).1; omega
    ·have := C8.out.lb; omega
   ·rw [hl] at hk
    rcases hnw k hk with h1 | h1
    ·exact hol k h1
    ·exact ⟨by omega, by omega⟩
   ·have h1 := C8.out.u k hk
    refine ⟨h1.1, by have := GX.size; omega, h1.2.2.1, h1.2.2.2.1, h1.2.2.2.2.1, h1.2.2.2.2.2.1, fun e => ?_⟩
    rw [hl] at e
    rcases hnw k e with h2 | h2
    ·exact h1.2.2.2.2.2.2 (by rw [← hn.out]; exact h2)
    ·omega⟩
  refine hK _ _ (HSx.out _ C10.out.bel) fun hS10 => ?_
  clear hK P10 G10 P9 G9 O9 M9 B9 C8 O8 P8 HB8 G8 C7 P7 O7 G7 HSx
  simp only [Act.put, pqA, pqB, pqC]
  refine wpAnyH_done (by kernel_rfl) ?_ _
  exact hkk _ _ _ _ _ _ _ _ w10 xa xc C10.out GT.out
 ·refine wp_bs 35 1 _ rfl #[(0, .string st)] (by simp [Act.eval]) _ _ (bsT st w7) ?_
  have hbx := below_new w7 (.cells #[.string st] 9)
  have HB8 := Keep.mk (Blk.new w7 9 #[.string st])
  have P8 := Keep.mk (P7.out.below hbx P7.out.lt)
  have O8 := Keep.mk (O7.out.below hbx)
  have C8 := Keep.mk (C7.out.below hbx)
  have G8 : Keep (Grown wq (w7.alloc (.cells #[.string st] 9)) fun _ => False) := ⟨G7.out.trans (Grown.below hbx)⟩
  clear hbx
  generalize w7.alloc (.cells #[.string st] 9) = w8 at *
  obtain ⟨g8, hg8⟩ : ∃ z, Keep (z = w7.heap.size) := ⟨_, ⟨rfl⟩⟩
  rw [← hg8.out] at HB8 ⊢
  refine hK _ _ (HSx.out _ C8.out.bel) fun hB8 => ?_
  clear hK
  simp only [Act.put, pqA, pqB, pqC]
  refine wpAnyH_ready (rs := [0]) (by kernel_rfl) (by simp) ?_
  refine AllReadyH.cons (o := ⟨some 80, Op.load 35 (Operand.tmp 14), 35, _, _, none⟩) rfl (fun K hK => ?_) AllReadyH.nil
  rw [if_pos (by rfl)]
  have cl : w8.cell? ⟨b14, 0, none⟩ = some (.slice pa n pc) := P8.out.c 0 rfl
  refine wp_val (.slice pa n pc) (by go_simp) ?_
  clear cl
  refine hK _ _ (HSx.out _ C8.out.bel) fun hL8 => ?_
  clear hK
  simp only [Act.put, pqA, pqB, pqC]
  refine wpAnyH_ready (rs := [7]) (by kernel_rfl) (by simp) ?_
  refine AllReadyH.cons (o := ⟨some 87, Op.call { callee := Callee.builtin Builtin.append, args := #[Operand.tmp 80, Operand.tmp 86], argTypes := #[35, 35] }, 35, _, _, none⟩) rfl (fun K hK => ?_) AllReadyH.nil
  rw [if_pos (by rfl)]
  refine wp_appT (.tmp 80) (.tmp 86) rfl (.slice pa n pc) (pt.map strOfNums) g8 1 st rfl rfl O8.out HB8.out (by rw [List.length_map, ← hn.out]; have := Hfew.out; omega) fun v9 w9 h1 h2 h3 => ?_
  obtain ⟨xa, xc, hv9⟩ := h1.sl
  have hl9 : (pt.map strOfNums ++ [st]).length = n + 1 := by rw [List.length_append, List.length_singleton, List.length_map, ← hn.out]
  rw [hl9] at hv9
  subst hv9
  have O9 := Keep.mk h1
  have G9 := Keep.mk h2
  have M9 := Keep.mk h3
  clear h1 h2 h3 hl9
  have hob : (.slice pa n pc : Value).ownBlock ≠ some b14 := fun e => absurd ((O8.out.typ e).one P8.out.typ) (by decide)
  have P9 : Keep (Blk w9 b14 35 #[.slice pa n pc]) := ⟨G9.out.blk P8.out hob⟩
  have B9 : Keep (Below w.heap.size w w9) := ⟨C8.out.bel.trans (G9.out.to_below (fun k hk e => by have := (C8.out.ol k (by rw [← hn.out]; exact e)).1; omega) C8.out.bel.size)⟩
  refine hK _ _ (HSx.out _ B9.out) fun hA9 => ?_
  clear hK hob
  simp only [Act.put, pqA, pqB, pqC]
  refine wpAnyH_ready (rs := [8]) (by kernel_rfl) (by simp) ?_
  refine AllReadyH.cons (o := ⟨none, Op.store 35 (Operand.tmp 14) (Operand.tmp 87), 0, _, _, none⟩) rfl (fun K hK => ?_) AllReadyH.nil
  rw [if_pos (by rfl)]
  have f_o := P9.out.frozen 0
  have c_o : w9.cell? ⟨b14, 0, none⟩ = some (.slice pa n pc) := P9.out.c 0 rfl
  refine wp_cellS (w9.setCell ⟨b14, 0, none⟩ (.slice xa (n + 1) xc)) (by go_simp) ?_
  clear f_o c_o
  have P10 : Keep (Blk (w9.setCell ⟨b14, 0, none⟩ (.slice xa (n + 1) xc)) b14 35 #[.slice xa (n + 1) xc]) := ⟨P9.out.set 0 _⟩
  have G10 : Keep (Grown w9 (w9.setCell ⟨b14, 0, none⟩ (.slice xa (n + 1) xc)) fun k => k = b14) := ⟨Grown.setCell w9 b14 0 _ fun _ => rfl⟩
  generalize w9.setCell ⟨b14, 0, none⟩ (.slice xa (n + 1) xc) = w10 at *
  have GT : Keep (Grown wq w10 fun k => (.slice pa n pc : Value).ownBlock = some k ∨ k = b14) := ⟨((G8.out.mono fun k _ e => e.elim).trans (G9.out.mono fun k _ e => .inl e)).trans (G10.out.mono fun k _ e => .inr e)⟩
  have C10 : Keep (LC w w10 d h p r8 b14 xa xc (pt ++ [qq]) U) := ⟨by
   have hs8 := C8.out.bel.size
   have GX : Grown w8 w10 fun k => (.slice pa n pc : Value).ownBlock = some k ∨ k = b14 := (G9.out.mono fun k _ e => .inl e).trans (G10.out.mono fun k _ e => .inr e)
   have hl : (pt ++ [qq]).length = n + 1 := by rw [List.length_append, List.length_singleton, ← hn.out]
   have hmp : (pt ++ [qq]).map strOfNums = pt.map strOfNums ++ [st] := by rw [List.map_append, ← hst.out]; rfl
   have hol : ∀ k, (.slice pa n pc : Value).ownBlock = some k → w.heap.size ≤ k ∧ k ≠ b14 := fun k hk => C8.out.ol k (by rw [← hn.out]; exact hk)
   have hbk : ∀ {k : Nat} {T : TypeId} {cs : Array Value}, Blk w8 k T cs → T ≠ 9 ∧ T ≠ 35 → Blk w10 k T cs := fun hk hT => GX.blk hk fun e => by
    rcases e with e | rfl
    ·exact hT.1 (hk.typ.one (O8.out.typ e))
    ·exact hT.2 (hk.typ.one P8.out.typ)
   have hnw : ∀ k, (.slice xa (n + 1) xc : Value).ownBlock = some k → (.slice pa n pc : Value).ownBlock = some k ∨ w8.heap.size ≤ k := fun k hk => by
    rcases M9.out with e | ⟨j, e, hj⟩
    ·rw [hk] at e; exact .inl e.symm
    ·rw [hk] at e; right; have := Option.some.inj e; omega
   have hb8 := P8.out.lt
   have hos10 : OwnS w10 (.slice xa (n + 1) xc) (pt.map strOfNums ++ [st]) := O9.out.grown G10.out fun k hk e => by subst e; exact absurd ((O9.out.typ hk).one P9.out.typ) (by decide)
   refine ⟨C8.out.tab.grown GX (fun e => ?_), C8.out.pos, C8.out.bel.trans (GX.to_below (fun k hk e => ?_) hs8), hbk C8.out.rb (by decide), C8.out.lr, by rw [hl]; exact P10.out, C8.out.lb, by rw [hl, hmp]; exact hos10, fun k hk => ?_, hbk C8.out.dk (by decide), hbk C8.out.hh (by decide), fun k hk => ?_⟩
   ·have hp := C8.out.pos
    rcases e with e | e
    ·have := (hol 0 e).1; omega
    ·have := C8.out.lb; omega
   ·rcases e with e | e
    ·have := (hol k e).1; omega
    ·have := C8.out.lb; omega
   ·rw [hl] at hk
    rcases hnw k hk with h1 | h1
    ·exact hol k h1
    ·exact ⟨by omega, by omega⟩
   ·have h1 := C8.out.u k hk
    refine ⟨h1.1, by have := GX.size; omega, h1.2.2.1, h1.2.2.2.1, h1.2.2.2.2.1, h1.2.2.2.2.2.1, fun e => ?_⟩
    rw [hl] at e
    rcases hnw k e with h2 | h2
    ·exact h1.2.2.2.2.2.2 (by rw [← hn.out]; exact h2)
    ·omega⟩
  refine hK _ _ (HSx.out _ C10.out.bel) fun hS10 => ?_
  clear hK P10 G10 P9 G9 O9 M9 B9 C8 O8 P8 HB8 G8 C7 P7 O7 G7 HSx
  simp only [Act.put, pqA, pqB, pqC]
  refine wpAnyH_done (by kernel_rfl) ?_ _
  exact hkk _ _ _ _ _ _ _ _ w10 xa xc C10.out GT.out
end Go.Proofs.YtlggejehaonkcaaDoor
