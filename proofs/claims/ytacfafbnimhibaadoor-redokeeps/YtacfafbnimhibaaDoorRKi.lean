/- RedoKeeps, a piece: walks over the program. -/
import Derived.Test.YtacfafbnimhibaaDoorRKa
import Derived.Test.YtacfafbnimhibaaDoorViewW
import Derived.Deep.RegionHeld3
import Derived.Deep.Cut
import Derived.Deep.CutRange
import Derived.BigCall
import Derived.BigGuard
namespace Go.Proofs.YtacfafbnimhibaaDoor
open Go.RowKit El Pol
set_option linter.unusedVariables false in
set_option maxRecDepth 1000000 in
set_option maxHeartbeats 4000000 in
theorem k_end (n0 c0 n1 c1 n2 c2 n3 c3 n4 c4 p : Nat) (a0 a1 a2 a3 a4 : Option Addr) (w : World) (f : Nat → List El) (ds : List (List Wr)) (t : Rdo) (gd cd gm cm r : Nat) (rv : Nat → Value) (fl : Nat) (u5 u6 u7 u8 u9 u11 u12 u13 u14 u15 u16 u17 u19 u20 u23 u24 u25 u26 u27 u28 u29 u30 u31 u32 u33 u34 u36 u37 u38 u39 u40 u41 u42 u43 u44 u45 u46 u47 u48 u49 u50 u51 u52 u53 u54 u55 u56 u57 u58 u59 u60 u61 u62 u63 u64 u65 u66 u67 u68 u69 u70 u71 u72 u73 u74 u75 u76 u77 u78 u79 u80 u81 u82 u83 u84 u85 u86 u87 u88 u89 u90 u91 u92 u93 u94 u95 u96 u97 u98 u99 u100 u101 u102 u103 u104 u105 u106 u107 u108 u109 u110 u111 u112 u113 u114 u115 u116 u117 u118 u119 u120 u121 u122 u123 u124 u125 u126 u127 u128 u129 u130 u131 u132 u133 u134 u135 u136 u137 u138 u139 u140 u141 u142 u143 u144 u145 u146 u147 u148 u149 u150 u151 u152 u153 u154 u155 u156 u157 u158 u159 u160 u161 u162 u163 u164 u165 u166 u167 u168 u169 u170 u171 u172 u173 u174 u175 u176 u177 u178 u179 u180 u181 u182 u183 u184 u185 u186 u187 u188 u189 u190 u191 u192 u193 u194 u195 u196 u197 u198 u199 u200 u201 u202 u203 u204 u205 u206 u207 u208 u209 u210 u211 u212 u213 u214 u215 u216 u217 u218 u219 u220 u221 u222 u223 u224 u225 u226 u227 u228 u229 u230 u231 u232 u233 u234 u235 u236 u237 u238 u239 u240 u241 u242 u243 u244 u245 u246 u247 u248 u249 u250 u251 u252 u253 u254 u255 u256 u257 u258 u259 u260 u261 u262 u263 u264 u265 u266 u267 u268 u269 u270 u271 u272 u273 u274 u275 u276 u277 u278 u279 u280 u281 u282 u283 u284 u285 u286 u287 u288 u289 u290 u291 u292 u293 u294 u295 u296 u297 u298 u299 u300 u301 u302 u303 u304 u305 u306 u307 u308 : Value) (wc : World) (Q : Exit → Act → World → Prop)
    (hS : KN w p n0 f ds t gd cd gm cm r rv wc) (hfl : fl ≤ r) (hds : t.rs = ds.take fl) (hlg : t.log.length = (logOf (ds.take fl)).length) (hsf : t.safe = t.log.length)
    (hQ : ∀ (x283 x284 x285 x286 x287 x288 x289 x290 x291 x292 x293 x294 x295 x296 x297 x298 x299 x300 x301 x302 x303 x304 x305 x306 x307 x308 : Value)  (w1 : World), KN w p n0 f t.rs t gd cd gm cm fl rv w1 → Q .normal ⟨#[.slice a0 n0 c0, .slice a1 n1 c1, .slice a2 n2 c2, .slice a3 n3 c3, .slice a4 n4 c4, u5, u6, u7, u8, u9, .bool false, u11, u12, u13, u14, u15, u16, u17, .pointer (some ⟨p, 0, none⟩), u19, u20, .slice (some ⟨gd, 0, none⟩) (fl + 1) cd, .slice (some ⟨gm, 0, none⟩) (fl + 1) cm, u23, u24, u25, u26, u27, u28, u29, u30, u31, u32, u33, u34, .int .i64 ((fl : Nat) : Int), u36, u37, u38, u39, u40, u41, u42, u43, u44, u45, u46, u47, u48, u49, u50, u51, u52, u53, u54, u55, u56, u57, u58, u59, u60, u61, u62, u63, u64, u65, u66, u67, u68, u69, u70, u71, u72, u73, u74, u75, u76, u77, u78, u79, u80, u81, u82, u83, u84, u85, u86, u87, u88, u89, u90, u91, u92, u93, u94, u95, u96, u97, u98, u99, u100, u101, u102, u103, u104, u105, u106, u107, u108, u109, u110, u111, u112, u113, u114, u115, u116, u117, u118, u119, u120, u121, u122, u123, u124, u125, u126, u127, u128, u129, u130, u131, u132, u133, u134, u135, u136, u137, u138, u139, u140, u141, u142, u143, u144, u145, u146, u147, u148, u149, u150, u151, u152, u153, u154, u155, u156, u157, u158, u159, u160, u161, u162, u163, u164, u165, u166, u167, u168, u169, u170, u171, u172, u173, u174, u175, u176, u177, u178, u179, u180, u181, u182, u183, u184, u185, u186, u187, u188, u189, u190, u191, u192, u193, u194, u195, u196, u197, u198, u199, u200, u201, u202, u203, u204, u205, u206, u207, u208, u209, u210, u211, u212, u213, u214, u215, u216, u217, u218, u219, u220, u221, u222, u223, u224, u225, u226, u227, u228, u229, u230, u231, u232, u233, u234, u235, u236, u237, u238, u239, u240, u241, u242, u243, u244, u245, u246, u247, u248, u249, u250, u251, u252, u253, u254, u255, u256, u257, u258, u259, u260, u261, u262, u263, u264, u265, u266, u267, u268, u269, u270, u271, u272, u273, u274, u275, u276, u277, u278, u279, u280, u281, u282, x283, x284, x285, x286, x287, x288, x289, x290, x291, x292, x293, x294, x295, x296, x297, x298, x299, x300, x301, x302, x303, x304, x305, x306, x307, x308], []⟩ w1) :
    Code.wp Tryd.prog (cut [1, 1, 1, 1, 1, 1, 1, 1, 1, 1, 1, 1, 1, 1, 1, 1, 0, 1, 2, 5, 1, 0, 2, 1, 1, 1, 1, 1, 1, 1, 1, 1, 1, 1, 1, 1] (Tryd.f6.body.getD .skip)) Q ⟨#[.slice a0 n0 c0, .slice a1 n1 c1, .slice a2 n2 c2, .slice a3 n3 c3, .slice a4 n4 c4, u5, u6, u7, u8, u9, .bool false, u11, u12, u13, u14, u15, u16, u17, .pointer (some ⟨p, 0, none⟩), u19, u20, .slice (some ⟨gd, 0, none⟩) (fl + 1) cd, .slice (some ⟨gm, 0, none⟩) (fl + 1) cm, u23, u24, u25, u26, u27, u28, u29, u30, u31, u32, u33, u34, .int .i64 ((fl : Nat) : Int), u36, u37, u38, u39, u40, u41, u42, u43, u44, u45, u46, u47, u48, u49, u50, u51, u52, u53, u54, u55, u56, u57, u58, u59, u60, u61, u62, u63, u64, u65, u66, u67, u68, u69, u70, u71, u72, u73, u74, u75, u76, u77, u78, u79, u80, u81, u82, u83, u84, u85, u86, u87, u88, u89, u90, u91, u92, u93, u94, u95, u96, u97, u98, u99, u100, u101, u102, u103, u104, u105, u106, u107, u108, u109, u110, u111, u112, u113, u114, u115, u116, u117, u118, u119, u120, u121, u122, u123, u124, u125, u126, u127, u128, u129, u130, u131, u132, u133, u134, u135, u136, u137, u138, u139, u140, u141, u142, u143, u144, u145, u146, u147, u148, u149, u150, u151, u152, u153, u154, u155, u156, u157, u158, u159, u160, u161, u162, u163, u164, u165, u166, u167, u168, u169, u170, u171, u172, u173, u174, u175, u176, u177, u178, u179, u180, u181, u182, u183, u184, u185, u186, u187, u188, u189, u190, u191, u192, u193, u194, u195, u196, u197, u198, u199, u200, u201, u202, u203, u204, u205, u206, u207, u208, u209, u210, u211, u212, u213, u214, u215, u216, u217, u218, u219, u220, u221, u222, u223, u224, u225, u226, u227, u228, u229, u230, u231, u232, u233, u234, u235, u236, u237, u238, u239, u240, u241, u242, u243, u244, u245, u246, u247, u248, u249, u250, u251, u252, u253, u254, u255, u256, u257, u258, u259, u260, u261, u262, u263, u264, u265, u266, u267, u268, u269, u270, u271, u272, u273, u274, u275, u276, u277, u278, u279, u280, u281, u282, u283, u284, u285, u286, u287, u288, u289, u290, u291, u292, u293, u294, u295, u296, u297, u298, u299, u300, u301, u302, u303, u304, u305, u306, u307, u308], []⟩ wc := by
  conv => arg 2; whnf
  have HQ : Hid _ := hQ
  have HS : Hid (KN w p n0 f ds t gd cd gm cm r rv wc) := hS
  clear hQ

  obtain ⟨hK, hr, hr40⟩ := hS
  have hd0 : Below wc.heap.size wc wc.drew := ⟨rfl, rfl, rfl, Nat.le_refl _, fun _ _ => rfl⟩
  have HS0 : Hid (KN w p n0 f ds t gd cd gm cm r rv wc.drew) := ⟨hK.old hd0, hr, hr40⟩
  have hA := rl_all HS0.out.1.rl
  have hcell : wc.cell? ⟨gd, fl, none⟩ = some (rv fl) := by
    obtain ⟨g, cap, e, hc, _⟩ := hK.at fl (by omega)
    simp only [Value.slice.injEq, Option.some.injEq, Addr.mk.injEq, and_true] at e
    rw [e.1]
    exact hc
  have hmark : wc.cell? ⟨gm, fl, none⟩ = some (.int .i64 (t.log.length : Int)) := by
    obtain ⟨g, cap, e, hc, _⟩ := hK.mark fl (by omega)
    simp only [Value.slice.injEq, Option.some.injEq, Addr.mk.injEq, and_true] at e
    rw [e.1, hlg]
    exact hc
  have hlast := HS0.out.1.row fl (by omega)
  rw [← hds, show doL f t.rs = t.cells by unfold Rdo.cells; rw [hK.tf]] at hlast
  have hn := hK.tn
  obtain ⟨ao, cao, hrv, hl1, hl2⟩ := hlast.len
  rw [hrv] at hcell hlast
  have HL : Hid (RdT wc.drew (.slice ao n0 cao) n0 t.cells) := hlast
  rw [hn] at hA
  have hsame : sameL n0 n0 t.cells t.cells = true := sameL_iff.2 ⟨rfl, fun _ _ => rfl⟩
  have HT : Hid (∀ u w2, OwT wc.drew.heap.size w2 u n0 t.cells → Below wc.drew.heap.size wc.drew w2 → Calls Tryd.prog 28 #[u, .slice ao n0 cao] w2 fun e w' => e = .returned (.bool true) ∧ Below w2.heap.size w2 w') := fun u w2 hO hB => by
    have h5 := texts_any u _ n0 n0 t.cells t.cells w2 (OwT.rd hO) (HL.out.old hB)
    rw [hsame] at h5
    exact h5
  have HBy : Hid (∀ w2, Below wc.drew.heap.size wc.drew w2 → Calls Tryd.prog 23 #[.pointer (some ⟨p, 0, none⟩)] w2 fun e w' => e = .returned (.int .i64 (t.log.length : Int)) ∧ w' = w2) := fun w2 hB => rl_bytes (HS0.out.1.rl.old hB)
  have HSf : Hid (∀ w2, Below wc.drew.heap.size wc.drew w2 → Calls Tryd.prog 24 #[.pointer (some ⟨p, 0, none⟩)] w2 fun e w' => e = .returned (.int .i64 (t.log.length : Int)) ∧ w' = w2) := fun w2 hB => by
    have h5 := rl_safe (HS0.out.1.rl.old hB)
    rw [hsf] at h5
    exact h5
  have HDS : Hid (t.rs = ds.take fl) := hds
  have hwr : IntKind.i64.wrap (fl : Int) = (fl : Int) := by rw [IntKind.wrap_i64]; omega
  have hr0 : (0 : Int) ≤ (fl : Int) := by omega
  have hr1 : (fl : Int) < (fl : Int) + 1 := by omega
  clear hK hlast hrv hn hsame hd0 hds hlg hsf
  generalize (t.log.length : Int) = ll at *
  go_wp2
  go_region_held3 (fun w' => w'.cell? ⟨gd, fl, none⟩ = some (.slice ao n0 cao) ∧ w'.cell? ⟨gm, fl, none⟩ = some (.int .i64 ll)) (first | go_keep | exact ⟨hcell3, hmark3⟩ | exact ⟨hcell2, hmark2⟩) ((first
    | (go_at_call 22; refine hA.mono ?_; rintro e w2 ⟨u, rfl, hO2, hB2⟩; have hcell2 := (hB2.cell (World.block_lt_of_cell? wc.drew _ hcell)).trans hcell; have hmark2 := (hB2.cell (World.block_lt_of_cell? wc.drew _ hmark)).trans hmark)
    | (go_at_call 28; refine (HT.out _ _ hO2 hB2).mono ?_; rintro e w3 ⟨rfl, hB3⟩; have hcell3 := (hB3.cell (World.block_lt_of_cell? w2 _ hcell2)).trans hcell2; have hmark3 := (hB3.cell (World.block_lt_of_cell? w2 _ hmark2)).trans hmark2)
    | (go_at_call 23; refine (HBy.out _ (hB2.trans (hB3.mono hB2.size))).mono ?_; rintro e w4 ⟨rfl, hw4⟩; obtain rfl := hw4.symm)
    | (go_at_call 24; refine (HSf.out _ (hB2.trans (hB3.mono hB2.size))).mono ?_; rintro e w5 ⟨rfl, hw5⟩; obtain rfl := hw5.symm)))
  have HS3 : Hid (KN w p n0 f t.rs t gd cd gm cm fl rv w3) := ⟨KM.cut ((HS0.out.1.old hB2).old hB3) HDS.out (by rw [hr]; exact hfl) (by rw [hr]) (by rw [hr]), by rw [HDS.out, List.length_take]; omega, by omega⟩
  clear hA hO2 hB2 hB3 hcell hcell2 hcell3 hmark hmark2 hmark3 HS HS0 HT HL HBy HSf
  go_wp2
  exact HQ.out _ _ _ _ _ _ _ _ _ _ _ _ _ _ _ _ _ _ _ _ _ _ _ _ _ _ _ HS3.out
end Go.Proofs.YtacfafbnimhibaaDoor
