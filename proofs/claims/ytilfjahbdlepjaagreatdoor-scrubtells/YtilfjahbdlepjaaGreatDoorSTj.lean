/- ScrubTells, a piece: walks over the program. -/
import Derived.Test.YtilfjahbdlepjaaGreatDoorSTa
import Derived.Test.YtilfjahbdlepjaaGreatDoorPw
import Derived.Deep.Cut
import Derived.Deep.CutRange
import Derived.BigCall
import Derived.BigGuard
namespace Go.Proofs.YtilfjahbdlepjaaGreatDoor
open Go.RowKit El Pol Mx Lay
set_option linter.unusedVariables false in
set_option maxRecDepth 1000000 in
set_option maxHeartbeats 8000000 in
theorem t54 (n rows size n3 c3 : Nat) (a3 : Option Addr) (mm rr : Int) (x1 x2 : PAd) (y1 y2 : RAd) (w : World) (N1 N2 : Nat) (B1 B2 : Arr) (u6 u7 u8 u9 u10 u11 u12 u14 u16 u19 u20 u21 u22 u23 u24 u25 u26 u27 u28 u29 u30 u31 u32 u33 u34 u35 u36 u37 u38 u39 u40 u41 u42 u43 u44 u45 u46 u47 u48 u49 u50 u51 u52 u53 u54 u55 u56 u57 u58 u59 u60 u61 u62 u63 u64 u65 u66 u67 u68 u69 u70 u71 u72 u73 u74 u75 u76 u77 u78 u79 u80 u81 u82 u83 u84 u85 u86 u87 u88 u89 u90 u91 u92 u93 u94 u95 u96 u97 u98 u99 u100 u101 u102 u103 u104 u105 u106 u107 u108 u109 u110 u111 u112 u113 u114 u115 u116 u117 u118 u119 u120 u121 u122 u123 u124 u125 u126 u127 u128 u129 u130 u131 u132 u133 u134 u135 u136 u137 u138 u139 u140 u141 u142 u143 u144 u145 u146 u147 u148 u149 u150 u151 u152 u153 u154 u155 u156 u157 u158 u159 u160 u161 u162 u163 u164 u165 u166 u167 u168 u169 u170 u171 u172 u173 u174 u175 u176 u177 u178 u179 u180 u181 u182 u183 u184 u185 u186 u187 u188 u189 u190 u191 u192 u193 u194 u195 u196 u197 u198 u199 u200 u201 u202 u203 u204 u205 u206 u207 u208 u209 u210 u211 u212 u213 u214 u215 u216 u217 u218 u219 u220 u221 u222 u223 u224 u225 u226 u227 u228 u229 u230 u231 u232 u233 u234 u235 u236 u237 u238 u239 u240 u241 u242 u243 u244 u245 u246 u247 u248 u249 u250 u251 u252 u253 u254 u255 u256 u257 u258 u259 u260 u261 u262 u263 u264 u265 u266 u267 u268 u269 u270 u271 u272 u273 u274 u275 u276 u277 u278 u279 u280 u281 u282 u283 u284 u285 u286 u287 u288 u289 u290 u291 u292 u293 u294 u295 u296 u297 u298 u299 u300 u301 u302 u303 u304 u305 u306 u307 u308 u309 u310 u311 u312 u313 u314 u315 u316 u317 u318 u319 u320 u321 u322 u323 u324 u325 u326 u327 u328 u329 u330 u331 u332 u333 u334 u335 u336 u337 : Value) (wc : World) (Q : Exit → Act → World → Prop)
    (hS : QS w x1 x2 y1 y2 n rows size (B1) (B2) (B1) (B2) (N1) (N2) wc) (hn : 3 ≤ n ∧ n ≤ 10) (hr : 1 ≤ rows ∧ rows ≤ 20) (hz : 1 ≤ size ∧ size ≤ 16)
    (hQ : ∀ (x12 x33 x34 x35 x36 x37 x38 x39 x40 x41 x42 x43 x285 x286 x287 x288 x289 x290 x291 x292 x293 x294 x295 x296 x297 x298 x299 x300 x301 x302 x303 x304 x305 x306 x307 x308 x309 x310 x311 x312 x313 x314 x315 x316 x317 x318 x319 x320 x321 x322 x323 x324 x325 x326 x327 x328 x329 x330 x331 x332 x333 : Value)  (w1 : World), Below w.heap.size w w1 → Q .normal ⟨#[.int .i64 n, .int .i64 rows, .int .i64 size, .slice a3 n3 c3, .int .i64 mm, .int .i64 rr, u6, u7, u8, u9, u10, u11, x12, .pointer (some ⟨x1.p, 0, none⟩), u14, .pointer (some ⟨x2.p, 0, none⟩), u16, .pointer (some ⟨y1.p, 0, none⟩), .pointer (some ⟨y2.p, 0, none⟩), u19, u20, u21, u22, u23, u24, u25, u26, u27, u28, u29, u30, u31, u32, x33, x34, x35, x36, x37, x38, x39, x40, x41, x42, x43, u44, u45, u46, u47, u48, u49, u50, u51, u52, u53, u54, u55, u56, u57, u58, u59, u60, u61, u62, u63, u64, u65, u66, u67, u68, u69, u70, u71, u72, u73, u74, u75, u76, u77, u78, u79, u80, u81, u82, u83, u84, u85, u86, u87, u88, u89, u90, u91, u92, u93, u94, u95, u96, u97, u98, u99, u100, u101, u102, u103, u104, u105, u106, u107, u108, u109, u110, u111, u112, u113, u114, u115, u116, u117, u118, u119, u120, u121, u122, u123, u124, u125, u126, u127, u128, u129, u130, u131, u132, u133, u134, u135, u136, u137, u138, u139, u140, u141, u142, u143, u144, u145, u146, u147, u148, u149, u150, u151, u152, u153, u154, u155, u156, u157, u158, u159, u160, u161, u162, u163, u164, u165, u166, u167, u168, u169, u170, u171, u172, u173, u174, u175, u176, u177, u178, u179, u180, u181, u182, u183, u184, u185, u186, u187, u188, u189, u190, u191, u192, u193, u194, u195, u196, u197, u198, u199, u200, u201, u202, u203, u204, u205, u206, u207, u208, u209, u210, u211, u212, u213, u214, u215, u216, u217, u218, u219, u220, u221, u222, u223, u224, u225, u226, u227, u228, u229, u230, u231, u232, u233, u234, u235, u236, u237, u238, u239, u240, u241, u242, u243, u244, u245, u246, u247, u248, u249, u250, u251, u252, u253, u254, u255, u256, u257, u258, u259, u260, u261, u262, u263, u264, u265, u266, u267, u268, u269, u270, u271, u272, u273, u274, u275, u276, u277, u278, u279, u280, u281, u282, u283, u284, x285, x286, x287, x288, x289, x290, x291, x292, x293, x294, x295, x296, x297, x298, x299, x300, x301, x302, x303, x304, x305, x306, x307, x308, x309, x310, x311, x312, x313, x314, x315, x316, x317, x318, x319, x320, x321, x322, x323, x324, x325, x326, x327, x328, x329, x330, x331, x332, x333, u334, u335, u336, u337], []⟩ w1) :
    Code.wp Tryz.prog (cut [1, 1, 1, 1, 1, 1, 1, 1, 1, 1, 1, 1, 1, 1, 1, 1, 1, 0] (Tryz.f4.body.getD .skip)) Q ⟨#[.int .i64 n, .int .i64 rows, .int .i64 size, .slice a3 n3 c3, .int .i64 mm, .int .i64 rr, u6, u7, u8, u9, u10, u11, u12, .pointer (some ⟨x1.p, 0, none⟩), u14, .pointer (some ⟨x2.p, 0, none⟩), u16, .pointer (some ⟨y1.p, 0, none⟩), .pointer (some ⟨y2.p, 0, none⟩), u19, u20, u21, u22, u23, u24, u25, u26, u27, u28, u29, u30, u31, u32, u33, u34, u35, u36, u37, u38, u39, u40, u41, u42, u43, u44, u45, u46, u47, u48, u49, u50, u51, u52, u53, u54, u55, u56, u57, u58, u59, u60, u61, u62, u63, u64, u65, u66, u67, u68, u69, u70, u71, u72, u73, u74, u75, u76, u77, u78, u79, u80, u81, u82, u83, u84, u85, u86, u87, u88, u89, u90, u91, u92, u93, u94, u95, u96, u97, u98, u99, u100, u101, u102, u103, u104, u105, u106, u107, u108, u109, u110, u111, u112, u113, u114, u115, u116, u117, u118, u119, u120, u121, u122, u123, u124, u125, u126, u127, u128, u129, u130, u131, u132, u133, u134, u135, u136, u137, u138, u139, u140, u141, u142, u143, u144, u145, u146, u147, u148, u149, u150, u151, u152, u153, u154, u155, u156, u157, u158, u159, u160, u161, u162, u163, u164, u165, u166, u167, u168, u169, u170, u171, u172, u173, u174, u175, u176, u177, u178, u179, u180, u181, u182, u183, u184, u185, u186, u187, u188, u189, u190, u191, u192, u193, u194, u195, u196, u197, u198, u199, u200, u201, u202, u203, u204, u205, u206, u207, u208, u209, u210, u211, u212, u213, u214, u215, u216, u217, u218, u219, u220, u221, u222, u223, u224, u225, u226, u227, u228, u229, u230, u231, u232, u233, u234, u235, u236, u237, u238, u239, u240, u241, u242, u243, u244, u245, u246, u247, u248, u249, u250, u251, u252, u253, u254, u255, u256, u257, u258, u259, u260, u261, u262, u263, u264, u265, u266, u267, u268, u269, u270, u271, u272, u273, u274, u275, u276, u277, u278, u279, u280, u281, u282, u283, u284, u285, u286, u287, u288, u289, u290, u291, u292, u293, u294, u295, u296, u297, u298, u299, u300, u301, u302, u303, u304, u305, u306, u307, u308, u309, u310, u311, u312, u313, u314, u315, u316, u317, u318, u319, u320, u321, u322, u323, u324, u325, u326, u327, u328, u329, u330, u331, u332, u333, u334, u335, u336, u337], []⟩ wc := by
  conv => arg 2; whnf
  have HQ : Hid _ := hQ
  have HS0 : Hid (QS w x1 x2 y1 y2 n rows size (B1) (B2) (B1) (B2) (N1) (N2) wc) := hS
  have hi1 := hS.i1
  have hi2 := hS.i2
  have HP1 : Hid (∀ w1 (k : Nat), k < rows → QS w x1 x2 y1 y2 n rows size (B1) (B2) (B1) (B2) (N1) (N2) w1 → Calls Tryz.prog 25 #[.pointer (some ⟨x1.p, 0, none⟩), .int .i64 k] w1 fun e w' => ∃ (g1 g2 : Nat), e = .returned (.tuple #[.slice (some ⟨g1, 0, none⟩) n n, .slice (some ⟨g2, 0, none⟩) n n, .nilIface]) ∧ RdF w' (.slice (some ⟨g1, 0, none⟩) n n) n (fun i => st (B1.part k i)) ∧ Below w1.heap.size w1 w') := fun w1 k hk h => by
    have := pa_raw h.a1.pa h.i1.1 k (by rw [h.i1.2.2.1]; exact hk)
    rw [h.i1.2.1] at this
    exact this.mono fun e w' ⟨g1, g2, he, h1, _, _, hb⟩ => ⟨g1, g2, he, h1.rd (Nat.le_refl _) (by omega), hb⟩
  have HP2 : Hid (∀ w1 (k : Nat), k < rows → QS w x1 x2 y1 y2 n rows size (B1) (B2) (B1) (B2) (N1) (N2) w1 → Calls Tryz.prog 25 #[.pointer (some ⟨x2.p, 0, none⟩), .int .i64 k] w1 fun e w' => ∃ (g1 g2 : Nat), e = .returned (.tuple #[.slice (some ⟨g1, 0, none⟩) n n, .slice (some ⟨g2, 0, none⟩) n n, .nilIface]) ∧ RdF w' (.slice (some ⟨g1, 0, none⟩) n n) n (fun i => st (B2.part k i)) ∧ Below w1.heap.size w1 w') := fun w1 k hk h => by
    have := pa_raw h.a2.pa h.i2.1 k (by rw [h.i2.2.2.1]; exact hk)
    rw [h.i2.2.1] at this
    exact this.mono fun e w' ⟨g1, g2, he, h1, _, _, hb⟩ => ⟨g1, g2, he, h1.rd (Nat.le_refl _) (by omega), hb⟩
  have HD1 : Hid (∀ w1 (k : Nat), k < rows → QS w x1 x2 y1 y2 n rows size (B1) (B2) (B1) (B2) (N1) (N2) w1 → Calls Tryz.prog 23 #[.pointer (some ⟨y1.p, 0, none⟩), .int .i64 k] w1 fun e w' => ∃ (g1 c1 g2 c2 : Nat), e = .returned (.tuple #[.slice (some ⟨g1, 0, none⟩) n c1, .slice (some ⟨g2, 0, none⟩) n c2]) ∧ RdF w' (.slice (some ⟨g1, 0, none⟩) n c1) n (fun i => st (B1.part k i)) ∧ Below w1.heap.size w1 w') := fun w1 k hk h => by
    have := ra_raw h.r1 h.j1.1 k (by rw [h.j1.2.2.1]; exact hk)
    rw [h.j1.2.1] at this
    exact this.mono fun e w' ⟨g1, c1, g2, c2, he, hc, h1, _, _, hb⟩ => ⟨g1, c1, g2, c2, he, h1.rd hc.1 hc.2.1, hb⟩
  have HD2 : Hid (∀ w1 (k : Nat), k < rows → QS w x1 x2 y1 y2 n rows size (B1) (B2) (B1) (B2) (N1) (N2) w1 → Calls Tryz.prog 23 #[.pointer (some ⟨y2.p, 0, none⟩), .int .i64 k] w1 fun e w' => ∃ (g1 c1 g2 c2 : Nat), e = .returned (.tuple #[.slice (some ⟨g1, 0, none⟩) n c1, .slice (some ⟨g2, 0, none⟩) n c2]) ∧ RdF w' (.slice (some ⟨g1, 0, none⟩) n c1) n (fun i => st (B2.part k i)) ∧ Below w1.heap.size w1 w') := fun w1 k hk h => by
    have := ra_raw h.r2 h.j2.1 k (by rw [h.j2.2.2.1]; exact hk)
    rw [h.j2.2.1] at this
    exact this.mono fun e w' ⟨g1, c1, g2, c2, he, hc, h1, _, _, hb⟩ => ⟨g1, c1, g2, c2, he, h1.rd hc.1 hc.2.1, hb⟩
  clear hQ hS hi1 hi2
  go_wp2
  go_loopw [33] (fun t wr => ∃ k : Nat, k ≤ rows ∧ t = .int .i64 k ∧ QS w x1 x2 y1 y2 n rows size (B1) (B2) (B1) (B2) (N1) (N2) wr) (fun t _ => rows - (intOf t).toNat)
  case atStart => exact ⟨0, Nat.zero_le _, rfl, HS0.out⟩
  case round =>
    clear HS0
    obtain ⟨k, hk, rfl, hS⟩ := hrel
    by_cases hlt : k < rows
    · have hlt' : (k : Int) < (rows : Int) := by omega
      have C := HP1.out wr k hlt hS
      have HS : Hid (QS w x1 x2 y1 y2 n rows size (B1) (B2) (B1) (B2) (N1) (N2) wr) := hS
      clear hS HP1
      go_wp2_with fail
      refine C.mono ?_
      rintro e w1 ⟨g1, g2, rfl, hR1, hB1⟩
      have hS1 := HS.out.old hB1
      have C2 := HP2.out w1 k hlt hS1
      have HS1 : Hid (QS w x1 x2 y1 y2 n rows size (B1) (B2) (B1) (B2) (N1) (N2) w1) := hS1
      have HR1 : Hid (RdF w1 (.slice (some ⟨g1, 0, none⟩) n n) n (fun i => st (B1.part k i))) := hR1
      clear C HS hS1 hB1 HP2 hR1
      go_wp2_with fail
      refine C2.mono ?_
      rintro e w2 ⟨g3, g4, rfl, hR2, hB2⟩
      have hS2 := HS1.out.old hB2
      have C3 := HD1.out w2 k hlt hS2
      have HS2 : Hid (QS w x1 x2 y1 y2 n rows size (B1) (B2) (B1) (B2) (N1) (N2) w2) := hS2
      have HR12 : Hid (RdF w2 (.slice (some ⟨g1, 0, none⟩) n n) n (fun i => st (B1.part k i))) := HR1.out.old hB2
      have HR2 : Hid (RdF w2 (.slice (some ⟨g3, 0, none⟩) n n) n (fun i => st (B2.part k i))) := hR2
      clear C2 HS1 hS2 hB2 HD1 hR2 HR1
      go_wp2_with fail
      refine C3.mono ?_
      rintro e w3 ⟨g5, c5, g6, c6, rfl, hR3, hB3⟩
      have hS3 := HS2.out.old hB3
      have C4 := HD2.out w3 k hlt hS3
      have HS3 : Hid (QS w x1 x2 y1 y2 n rows size (B1) (B2) (B1) (B2) (N1) (N2) w3) := hS3
      have HR13 : Hid (RdF w3 (.slice (some ⟨g1, 0, none⟩) n n) n (fun i => st (B1.part k i))) := HR12.out.old hB3
      have HR23 : Hid (RdF w3 (.slice (some ⟨g3, 0, none⟩) n n) n (fun i => st (B2.part k i))) := HR2.out.old hB3
      have HR3 : Hid (RdF w3 (.slice (some ⟨g5, 0, none⟩) n c5) n (fun i => st (B1.part k i))) := hR3
      clear C3 HS2 hS3 hB3 HD2 hR3 HR12 HR2
      go_wp2_with fail
      refine C4.mono ?_
      rintro e w4 ⟨g7, c7, g8, c8, rfl, hR4, hB4⟩
      have T1 := texts_any (.slice (some ⟨g1, 0, none⟩) n n) (.slice (some ⟨g5, 0, none⟩) n c5) n n (B1.part k) (B1.part k) w4 (HR13.out.old hB4) (HR3.out.old hB4)
      rw [sameL_iff.2 ⟨rfl, fun _ _ => rfl⟩] at T1
      have HT2 : Hid (∀ w5, Below w4.heap.size w4 w5 → Calls Tryz.prog 26 #[.slice (some ⟨g3, 0, none⟩) n n, .slice (some ⟨g7, 0, none⟩) n c7] w5 fun e w' => e = .returned (.bool true) ∧ Below w5.heap.size w5 w') := fun w5 hb => by
        have := texts_any (.slice (some ⟨g3, 0, none⟩) n n) (.slice (some ⟨g7, 0, none⟩) n c7) n n (B2.part k) (B2.part k) w5 ((HR23.out.old hB4).old hb) (hR4.old hb)
        rw [sameL_iff.2 ⟨rfl, fun _ _ => rfl⟩] at this
        exact this
      have HS4 : Hid (QS w x1 x2 y1 y2 n rows size (B1) (B2) (B1) (B2) (N1) (N2) w4) := HS3.out.old hB4
      clear C4 HS3 hB4 hR4 HR13 HR23 HR3
      go_wp2_with fail
      refine T1.mono ?_
      rintro e w5 ⟨rfl, hB5⟩
      have T2 := HT2.out w5 hB5
      have HS5 : Hid (QS w x1 x2 y1 y2 n rows size (B1) (B2) (B1) (B2) (N1) (N2) w5) := HS4.out.old hB5
      clear T1 HT2 hB5 HS4
      go_wp2_with fail
      refine T2.mono ?_
      rintro e w6 ⟨rfl, hB6⟩
      have HS6 : Hid (QS w x1 x2 y1 y2 n rows size (B1) (B2) (B1) (B2) (N1) (N2) w6) := HS5.out.old hB6
      clear T2 hB6 HS5
      go_wp2
      go_roundw
      case rel => exact ⟨k + 1, by omega, by go_num, HS6.out⟩
      case measure => simp [intOf]; omega
    · have hge : (rows : Int) ≤ (k : Int) := by omega
      have HL : Hid (Below w.heap.size w wr) := hS.a1.low
      clear hS HP1 HP2 HD1 HD2
      go_wp2
      exact HQ.out _ _ _ _ _ _ _ _ _ _ _ _ _ _ _ _ _ _ _ _ _ _ _ _ _ _ _ _ _ _ _ _ _ _ _ _ _ _ _ _ _ _ _ _ _ _ _ _ _ _ _ _ _ _ _ _ _ _ _ _ _ _ HL.out
end Go.Proofs.YtilfjahbdlepjaaGreatDoor
