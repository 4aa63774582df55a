/- ScrubTells, a piece: walks over the program. -/
import Derived.Test.YtilfjahbdlepjaaGreatDoorSTb
namespace Go.Proofs.YtilfjahbdlepjaaGreatDoor
open Go.RowKit El Pol Mx Lay
set_option linter.unusedVariables false in
set_option maxRecDepth 1000000 in
set_option maxHeartbeats 8000000 in
theorem t_fail (n rows size n3 c3 : Nat) (a3 : Option Addr) (mm rr : Int) (x1 x2 : PAd) (y1 y2 : RAd) (w : World) (k M q N : Nat) (A : Arr) (v : Nat → Int) (t : List El) (s : ByteArray) (u6 u7 u8 u9 u10 u11 u12 u14 u16 u21 u23 u24 u25 u26 u27 u28 u29 u30 u31 u32 u33 u34 u35 u36 u37 u38 u39 u40 u41 u42 u43 u44 u45 u46 u47 u48 u49 u50 u51 u52 u53 u54 u55 u56 u57 u58 u59 u60 u61 u62 u63 u64 u65 u66 u67 u68 u69 u70 u71 u72 u73 u74 u75 u76 u77 u78 u79 u80 u81 u82 u83 u84 u85 u86 u87 u88 u89 u90 u91 u92 u93 u94 u95 u96 u97 u98 u99 u100 u101 u102 u103 u104 u105 u106 u107 u108 u109 u110 u111 u112 u113 u114 u115 u116 u117 u118 u119 u120 u121 u122 u123 u124 u125 u126 u127 u128 u129 u130 u131 u132 u133 u134 u135 u136 u137 u138 u139 u140 u141 u142 u143 u144 u145 u146 u147 u148 u149 u150 u151 u152 u153 u154 u155 u156 u157 u158 u159 u160 u161 u162 u163 u164 u165 u166 u167 u168 u169 u170 u171 u172 u173 u174 u175 u176 u177 u178 u179 u180 u181 u182 u183 u184 u185 u186 u187 u188 u189 u190 u191 u192 u193 u194 u195 u196 u197 u198 u199 u200 u201 u202 u203 u204 u205 u206 u207 u208 u209 u210 u211 u212 u213 u214 u215 u216 u217 u218 u219 u220 u221 u222 u223 u224 u225 u226 u227 u228 u229 u230 u231 u232 u233 u234 u235 u236 u237 u238 u239 u240 u241 u242 u243 u244 u245 u246 u247 u248 u249 u250 u251 u252 u253 u254 u255 u256 u257 u258 u259 u260 u261 u262 u263 u264 u265 u266 u267 u268 u269 u270 u271 u272 u273 u274 u275 u276 u277 u278 u279 u280 u281 u282 u283 u284 u285 u286 u287 u288 u289 u290 u291 u292 u293 u294 u295 u296 u297 u298 u299 u300 u301 u302 u303 u304 u305 u306 u307 u308 u309 u310 u311 u312 u313 u314 u315 u316 u317 u318 u319 u320 u321 u322 u323 u324 u325 u326 u327 u328 u329 u330 u331 u332 u333 u334 u335 u336 u337 : Value) (wc : World) (Q : Exit → Act → World → Prop)
    (hM : M ≤ 1000) (hb : ∀ j, v j ≤ 9223372036854775807) (hS : QS w x1 x2 y1 y2 n rows size (A) (A) (A) (A) (N) (N) wc) (hV : VQ w x1 x2 y1 y2 n q wc v) (hN : N ≤ M) (h0 : v 0 = 2) (hs : s = sb t)
    (hQ : ∀ a w1, WKt n rows size n3 c3 a3 mm rr x1 x2 y1 y2 w u6 u7 u8 u9 u10 u11 u12 u14 u16 u23 u24 u25 u26 u27 u28 u29 u30 u31 u32 u33 u34 u35 u36 u37 u38 u39 u40 u41 u42 u43 u44 u45 u46 u47 u48 u49 u50 u51 u52 u53 u54 u55 u56 u57 u58 u59 u60 u61 u62 u63 u64 u65 u66 u67 u68 u69 u70 u71 u72 u73 u74 u75 u76 u77 u78 u79 u80 u81 u82 u83 u84 u85 u86 u87 u88 u89 u90 u91 u92 u93 u94 u95 u96 u97 u98 u99 u207 u208 u209 u210 u211 u212 u213 u214 u215 u216 u217 u218 u219 u220 u221 u222 u223 u224 u225 u226 u227 u228 u229 u230 u231 u232 u233 u234 u235 u236 u237 u238 u239 u240 u241 u242 u243 u244 u245 u246 u247 u248 u249 u250 u251 u252 u253 u254 u255 u256 u257 u258 u259 u260 u261 u262 u263 u264 u265 u266 u267 u268 u269 u270 u271 u272 u273 u274 u275 u276 u277 u278 u279 u280 u281 u282 u283 u284 u285 u286 u287 u288 u289 u290 u291 u292 u293 u294 u295 u296 u297 u298 u299 u300 u301 u302 u303 u304 u305 u306 u307 u308 u309 u310 u311 u312 u313 u314 u315 u316 u317 u318 u319 u320 u321 u322 u323 u324 u325 u326 u327 u328 u329 u330 u331 u332 u333 u334 u335 u336 u337 k M a w1 → Q .normal a w1) :
    Code.wp Tryz.prog (cut [1, 1, 1, 1, 1, 1, 1, 0, 1, 2, 5, 1, 0, 2, 1, 1, 1] (Tryz.f4.body.getD .skip)) Q ⟨#[.int .i64 n, .int .i64 rows, .int .i64 size, .slice a3 n3 c3, .int .i64 mm, .int .i64 rr, u6, u7, u8, u9, u10, u11, u12, .pointer (some ⟨x1.p, 0, none⟩), u14, .pointer (some ⟨x2.p, 0, none⟩), u16, .pointer (some ⟨y1.p, 0, none⟩), .pointer (some ⟨y2.p, 0, none⟩), .int .i64 ((k : Nat) : Int), .pointer (some ⟨q, 0, none⟩), u21, .string s, u23, u24, u25, u26, u27, u28, u29, u30, u31, u32, u33, u34, u35, u36, u37, u38, u39, u40, u41, u42, u43, u44, u45, u46, u47, u48, u49, u50, u51, u52, u53, u54, u55, u56, u57, u58, u59, u60, u61, u62, u63, u64, u65, u66, u67, u68, u69, u70, u71, u72, u73, u74, u75, u76, u77, u78, u79, u80, u81, u82, u83, u84, u85, u86, u87, u88, u89, u90, u91, u92, u93, u94, u95, u96, u97, u98, u99, u100, u101, u102, u103, u104, u105, u106, u107, u108, u109, u110, u111, u112, u113, u114, u115, u116, u117, u118, u119, u120, u121, u122, u123, u124, u125, u126, u127, u128, u129, u130, u131, u132, u133, u134, u135, u136, u137, u138, u139, u140, u141, u142, u143, u144, u145, u146, u147, u148, u149, u150, u151, u152, u153, u154, u155, u156, u157, u158, u159, u160, u161, u162, u163, u164, u165, u166, u167, u168, u169, u170, u171, u172, u173, u174, u175, u176, u177, u178, u179, u180, u181, u182, u183, u184, u185, u186, u187, u188, u189, u190, u191, u192, u193, u194, u195, u196, u197, u198, u199, u200, u201, u202, u203, u204, u205, u206, u207, u208, u209, u210, u211, u212, u213, u214, u215, u216, u217, u218, u219, u220, u221, u222, u223, u224, u225, u226, u227, u228, u229, u230, u231, u232, u233, u234, u235, u236, u237, u238, u239, u240, u241, u242, u243, u244, u245, u246, u247, u248, u249, u250, u251, u252, u253, u254, u255, u256, u257, u258, u259, u260, u261, u262, u263, u264, u265, u266, u267, u268, u269, u270, u271, u272, u273, u274, u275, u276, u277, u278, u279, u280, u281, u282, u283, u284, u285, u286, u287, u288, u289, u290, u291, u292, u293, u294, u295, u296, u297, u298, u299, u300, u301, u302, u303, u304, u305, u306, u307, u308, u309, u310, u311, u312, u313, u314, u315, u316, u317, u318, u319, u320, u321, u322, u323, u324, u325, u326, u327, u328, u329, u330, u331, u332, u333, u334, u335, u336, u337], []⟩ wc := by
  conv => arg 2; whnf
  have c0 := hV.at 0 (by omega)
  have c1 := hV.at 1 (by omega)
  have HQ : Hid _ := hQ
  have P1 := hS.fail1 (v 1)
  have HP2 : Hid (∀ w1, QS w x1 x2 y1 y2 n rows size (A.fail (v 1)) (A) (A) (A) (N) (N) w1 → Calls Tryz.prog 13 #[.pointer (some ⟨x2.p, 0, none⟩), .int .i64 (v 1)] w1 fun e w2 => e = .returned (errV (A.failE (v 1))) ∧ QS w x1 x2 y1 y2 n rows size (A.fail (v 1)) (A.fail (v 1)) (A) (A) (N) (N) w2 ∧ But (QF x1 x2 y1 y2 n) w1 w2) := fun w1 h => h.fail2 (v 1)
  have HP3 : Hid (∀ w1, QS w x1 x2 y1 y2 n rows size (A.fail (v 1)) (A.fail (v 1)) (A) (A) (N) (N) w1 → Calls Tryz.prog 12 #[.pointer (some ⟨y1.p, 0, none⟩), .int .i64 (v 1)] w1 fun e w2 => e = .returned (.int .i64 (A.failE (v 1))) ∧ QS w x1 x2 y1 y2 n rows size (A.fail (v 1)) (A.fail (v 1)) (A.fail (v 1)) (A) (N) (N) w2 ∧ But (QF x1 x2 y1 y2 n) w1 w2) := fun w1 h => h.fail3 (v 1)
  have HP4 : Hid (∀ w1, QS w x1 x2 y1 y2 n rows size (A.fail (v 1)) (A.fail (v 1)) (A.fail (v 1)) (A) (N) (N) w1 → Calls Tryz.prog 12 #[.pointer (some ⟨y2.p, 0, none⟩), .int .i64 (v 1)] w1 fun e w2 => e = .returned (.int .i64 (A.failE (v 1))) ∧ QS w x1 x2 y1 y2 n rows size (A.fail (v 1)) (A.fail (v 1)) (A.fail (v 1)) (A.fail (v 1)) (N) (N) w2 ∧ But (QF x1 x2 y1 y2 n) w1 w2) := fun w1 h => h.fail4 (v 1)
  have HV1 : Hid (∀ w1, But (QF x1 x2 y1 y2 n) wc w1 → w1.cell? ⟨q, 1, none⟩ = some (.int .i64 (v 1))) := fun w1 hB => (hV.but hB).at 1 (by omega)
  clear hQ hS hV hb
  generalize A.failE (v 1) = ke at *
  generalize A.fail (v 1) = A2 at *
  generalize hb1 : v 1 = b at *
  clear hb1
  rw [h0] at c0
  clear h0
  clear hs
  generalize errV ke = ev at *
  go_wp2_with fail
  refine P1.mono ?_
  rintro e w1 ⟨rfl, S1, hB1⟩
  have c1 := HV1.out w1 hB1
  have P2 := HP2.out w1 S1
  clear P1 S1 HP2 c0
  go_wp2_with fail
  refine P2.mono ?_
  rintro e w2 ⟨rfl, S2, hB2⟩
  have hB2' := hB1.trans hB2 (Grows.refl _ _)
  have c1 := HV1.out w2 hB2'
  have P3 := HP3.out w2 S2
  clear P2 S2 HP3 hB1 hB2
  go_wp2_with fail
  refine P3.mono ?_
  rintro e w3 ⟨rfl, S3, hB3⟩
  have hB3' := hB2'.trans hB3 (Grows.refl _ _)
  have c1 := HV1.out w3 hB3'
  have P4 := HP4.out w3 S3
  clear P3 S3 HP4 hB2' hB3 hB3' HV1
  go_wp2_with fail
  refine P4.mono ?_
  rintro e w4 ⟨rfl, S4, _⟩
  have HS4 : Hid (QS w x1 x2 y1 y2 n rows size (A2) (A2) (A2) (A2) (N) (N) w4) := S4
  clear P4 S4 c1
  go_wp2
  exact HQ.out _ _ (by unfold WKt; exact ⟨_, _, _, _, _, _, _, _, _, _, _, _, _, _, _, _, _, _, _, _, _, _, _, _, _, _, _, _, _, _, _, _, _, _, _, _, _, _, _, _, _, _, _, _, _, _, _, _, _, _, _, _, _, _, _, _, _, _, _, _, _, _, _, _, _, _, _, _, _, _, _, _, _, _, _, _, _, _, _, _, _, _, _, _, _, _, _, _, _, _, _, _, _, _, _, _, _, _, _, _, _, _, _, _, _, _, _, _, _, _, _, _, ⟨HS4.out, hN⟩, rfl⟩)

set_option linter.unusedVariables false in
set_option maxRecDepth 1000000 in
set_option maxHeartbeats 8000000 in
theorem t_poke (n rows size n3 c3 : Nat) (a3 : Option Addr) (mm rr : Int) (x1 x2 : PAd) (y1 y2 : RAd) (w : World) (k M q N : Nat) (A : Arr) (v : Nat → Int) (t : List El) (s : ByteArray) (u6 u7 u8 u9 u10 u11 u12 u14 u16 u21 u23 u24 u25 u26 u27 u28 u29 u30 u31 u32 u33 u34 u35 u36 u37 u38 u39 u40 u41 u42 u43 u44 u45 u46 u47 u48 u49 u50 u51 u52 u53 u54 u55 u56 u57 u58 u59 u60 u61 u62 u63 u64 u65 u66 u67 u68 u69 u70 u71 u72 u73 u74 u75 u76 u77 u78 u79 u80 u81 u82 u83 u84 u85 u86 u87 u88 u89 u90 u91 u92 u93 u94 u95 u96 u97 u98 u99 u100 u101 u102 u103 u104 u105 u106 u107 u108 u109 u110 u111 u112 u113 u114 u115 u116 u117 u118 u119 u120 u121 u122 u123 u124 u125 u126 u127 u128 u129 u130 u131 u132 u133 u134 u135 u136 u137 u138 u139 u140 u141 u142 u143 u144 u145 u146 u147 u148 u149 u150 u151 u152 u153 u154 u155 u156 u157 u158 u159 u160 u161 u162 u163 u164 u165 u166 u167 u168 u169 u170 u171 u172 u173 u174 u175 u176 u177 u178 u179 u180 u181 u182 u183 u184 u185 u186 u187 u188 u189 u190 u191 u192 u193 u194 u195 u196 u197 u198 u199 u200 u201 u202 u203 u204 u205 u206 u207 u208 u209 u210 u211 u212 u213 u214 u215 u216 u217 u218 u219 u220 u221 u222 u223 u224 u225 u226 u227 u228 u229 u230 u231 u232 u233 u234 u235 u236 u237 u238 u239 u240 u241 u242 u243 u244 u245 u246 u247 u248 u249 u250 u251 u252 u253 u254 u255 u256 u257 u258 u259 u260 u261 u262 u263 u264 u265 u266 u267 u268 u269 u270 u271 u272 u273 u274 u275 u276 u277 u278 u279 u280 u281 u282 u283 u284 u285 u286 u287 u288 u289 u290 u291 u292 u293 u294 u295 u296 u297 u298 u299 u300 u301 u302 u303 u304 u305 u306 u307 u308 u309 u310 u311 u312 u313 u314 u315 u316 u317 u318 u319 u320 u321 u322 u323 u324 u325 u326 u327 u328 u329 u330 u331 u332 u333 u334 u335 u336 u337 : Value) (wc : World) (Q : Exit → Act → World → Prop)
    (hM : M ≤ 1000) (hb : ∀ j, v j ≤ 9223372036854775807) (hS : QS w x1 x2 y1 y2 n rows size (A) (A) (A) (A) (N) (N) wc) (hV : VQ w x1 x2 y1 y2 n q wc v) (hN : N + 1 ≤ M) (h0 : v 0 ≠ 0 ∧ v 0 ≠ 1 ∧ v 0 ≠ 2) (hs : s = sb t)
    (hQ : ∀ a w1, WKt n rows size n3 c3 a3 mm rr x1 x2 y1 y2 w u6 u7 u8 u9 u10 u11 u12 u14 u16 u23 u24 u25 u26 u27 u28 u29 u30 u31 u32 u33 u34 u35 u36 u37 u38 u39 u40 u41 u42 u43 u44 u45 u46 u47 u48 u49 u50 u51 u52 u53 u54 u55 u56 u57 u58 u59 u60 u61 u62 u63 u64 u65 u66 u67 u68 u69 u70 u71 u72 u73 u74 u75 u76 u77 u78 u79 u80 u81 u82 u83 u84 u85 u86 u87 u88 u89 u90 u91 u92 u93 u94 u95 u96 u97 u98 u99 u207 u208 u209 u210 u211 u212 u213 u214 u215 u216 u217 u218 u219 u220 u221 u222 u223 u224 u225 u226 u227 u228 u229 u230 u231 u232 u233 u234 u235 u236 u237 u238 u239 u240 u241 u242 u243 u244 u245 u246 u247 u248 u249 u250 u251 u252 u253 u254 u255 u256 u257 u258 u259 u260 u261 u262 u263 u264 u265 u266 u267 u268 u269 u270 u271 u272 u273 u274 u275 u276 u277 u278 u279 u280 u281 u282 u283 u284 u285 u286 u287 u288 u289 u290 u291 u292 u293 u294 u295 u296 u297 u298 u299 u300 u301 u302 u303 u304 u305 u306 u307 u308 u309 u310 u311 u312 u313 u314 u315 u316 u317 u318 u319 u320 u321 u322 u323 u324 u325 u326 u327 u328 u329 u330 u331 u332 u333 u334 u335 u336 u337 k M a w1 → Q .normal a w1) :
    Code.wp Tryz.prog (cut [1, 1, 1, 1, 1, 1, 1, 0, 1, 2, 5, 1, 0, 2, 1, 1, 1] (Tryz.f4.body.getD .skip)) Q ⟨#[.int .i64 n, .int .i64 rows, .int .i64 size, .slice a3 n3 c3, .int .i64 mm, .int .i64 rr, u6, u7, u8, u9, u10, u11, u12, .pointer (some ⟨x1.p, 0, none⟩), u14, .pointer (some ⟨x2.p, 0, none⟩), u16, .pointer (some ⟨y1.p, 0, none⟩), .pointer (some ⟨y2.p, 0, none⟩), .int .i64 ((k : Nat) : Int), .pointer (some ⟨q, 0, none⟩), u21, .string s, u23, u24, u25, u26, u27, u28, u29, u30, u31, u32, u33, u34, u35, u36, u37, u38, u39, u40, u41, u42, u43, u44, u45, u46, u47, u48, u49, u50, u51, u52, u53, u54, u55, u56, u57, u58, u59, u60, u61, u62, u63, u64, u65, u66, u67, u68, u69, u70, u71, u72, u73, u74, u75, u76, u77, u78, u79, u80, u81, u82, u83, u84, u85, u86, u87, u88, u89, u90, u91, u92, u93, u94, u95, u96, u97, u98, u99, u100, u101, u102, u103, u104, u105, u106, u107, u108, u109, u110, u111, u112, u113, u114, u115, u116, u117, u118, u119, u120, u121, u122, u123, u124, u125, u126, u127, u128, u129, u130, u131, u132, u133, u134, u135, u136, u137, u138, u139, u140, u141, u142, u143, u144, u145, u146, u147, u148, u149, u150, u151, u152, u153, u154, u155, u156, u157, u158, u159, u160, u161, u162, u163, u164, u165, u166, u167, u168, u169, u170, u171, u172, u173, u174, u175, u176, u177, u178, u179, u180, u181, u182, u183, u184, u185, u186, u187, u188, u189, u190, u191, u192, u193, u194, u195, u196, u197, u198, u199, u200, u201, u202, u203, u204, u205, u206, u207, u208, u209, u210, u211, u212, u213, u214, u215, u216, u217, u218, u219, u220, u221, u222, u223, u224, u225, u226, u227, u228, u229, u230, u231, u232, u233, u234, u235, u236, u237, u238, u239, u240, u241, u242, u243, u244, u245, u246, u247, u248, u249, u250, u251, u252, u253, u254, u255, u256, u257, u258, u259, u260, u261, u262, u263, u264, u265, u266, u267, u268, u269, u270, u271, u272, u273, u274, u275, u276, u277, u278, u279, u280, u281, u282, u283, u284, u285, u286, u287, u288, u289, u290, u291, u292, u293, u294, u295, u296, u297, u298, u299, u300, u301, u302, u303, u304, u305, u306, u307, u308, u309, u310, u311, u312, u313, u314, u315, u316, u317, u318, u319, u320, u321, u322, u323, u324, u325, u326, u327, u328, u329, u330, u331, u332, u333, u334, u335, u336, u337], []⟩ wc := by
  conv => arg 2; whnf
  have c0 := hV.at 0 (by omega)
  have c1 := hV.at 1 (by omega)
  have c2 := hV.at 2 (by omega)
  have HQ : Hid _ := hQ
  have P1 := hS.poke1 (by omega) (v 1) (v 2) t
  have HP2 : Hid (∀ w1, QS w x1 x2 y1 y2 n rows size (A.poke (v 1) (v 2) t) (A) (A) (A) (N + 1) (N) w1 → Calls Tryz.prog 19 #[.pointer (some ⟨x2.p, 0, none⟩), .int .i64 (v 1), .int .i64 (v 2), st t] w1 fun e w2 => e = .returned (errV (A.pokeE (v 1) (v 2) t.length)) ∧ QS w x1 x2 y1 y2 n rows size (A.poke (v 1) (v 2) t) (A.poke (v 1) (v 2) t) (A) (A) (N + 1) (N + 1) w2 ∧ But (QF x1 x2 y1 y2 n) w1 w2) := fun w1 h => h.poke2 (by omega) (v 1) (v 2) t
  have HP3 : Hid (∀ w1, QS w x1 x2 y1 y2 n rows size (A.poke (v 1) (v 2) t) (A.poke (v 1) (v 2) t) (A) (A) (N + 1) (N + 1) w1 → Calls Tryz.prog 18 #[.pointer (some ⟨y1.p, 0, none⟩), .int .i64 (v 1), .int .i64 (v 2), st t] w1 fun e w2 => e = .returned (.int .i64 (A.pokeE (v 1) (v 2) t.length)) ∧ QS w x1 x2 y1 y2 n rows size (A.poke (v 1) (v 2) t) (A.poke (v 1) (v 2) t) (A.poke (v 1) (v 2) t) (A) (N + 1) (N + 1) w2 ∧ But (QF x1 x2 y1 y2 n) w1 w2) := fun w1 h => h.poke3 (v 1) (v 2) t
  have HP4 : Hid (∀ w1, QS w x1 x2 y1 y2 n rows size (A.poke (v 1) (v 2) t) (A.poke (v 1) (v 2) t) (A.poke (v 1) (v 2) t) (A) (N + 1) (N + 1) w1 → Calls Tryz.prog 18 #[.pointer (some ⟨y2.p, 0, none⟩), .int .i64 (v 1), .int .i64 (v 2), st t] w1 fun e w2 => e = .returned (.int .i64 (A.pokeE (v 1) (v 2) t.length)) ∧ QS w x1 x2 y1 y2 n rows size (A.poke (v 1) (v 2) t) (A.poke (v 1) (v 2) t) (A.poke (v 1) (v 2) t) (A.poke (v 1) (v 2) t) (N + 1) (N + 1) w2 ∧ But (QF x1 x2 y1 y2 n) w1 w2) := fun w1 h => h.poke4 (v 1) (v 2) t
  have HV1 : Hid (∀ w1, But (QF x1 x2 y1 y2 n) wc w1 → w1.cell? ⟨q, 1, none⟩ = some (.int .i64 (v 1))) := fun w1 hB => (hV.but hB).at 1 (by omega)
  have HV2 : Hid (∀ w1, But (QF x1 x2 y1 y2 n) wc w1 → w1.cell? ⟨q, 2, none⟩ = some (.int .i64 (v 2))) := fun w1 hB => (hV.but hB).at 2 (by omega)
  clear hQ hS hV hb
  generalize A.pokeE (v 1) (v 2) t.length = ke at *
  generalize A.poke (v 1) (v 2) t = A2 at *
  generalize hb1 : v 1 = b at *
  clear hb1
  generalize hb2 : v 2 = b2 at *
  clear hb2
  generalize v 0 = y0 at c0 h0
  obtain ⟨p0, p1, p2⟩ := h0
  have e0 : (y0 == 0) = false := by rw [beq_eq_false_iff_ne]; exact p0
  have e1 : (y0 == 1) = false := by rw [beq_eq_false_iff_ne]; exact p1
  have e2 : (y0 == 2) = false := by rw [beq_eq_false_iff_ne]; exact p2
  clear p0 p1 p2
  unfold st at P1 HP2 HP3 HP4
  rw [← hs] at P1 HP2 HP3 HP4
  clear hs
  generalize errV ke = ev at *
  go_wp2_with fail
  refine P1.mono ?_
  rintro e w1 ⟨rfl, S1, hB1⟩
  have c1 := HV1.out w1 hB1
  have c2 := HV2.out w1 hB1
  have P2 := HP2.out w1 S1
  clear P1 S1 HP2 c0
  go_wp2_with fail
  refine P2.mono ?_
  rintro e w2 ⟨rfl, S2, hB2⟩
  have hB2' := hB1.trans hB2 (Grows.refl _ _)
  have c1 := HV1.out w2 hB2'
  have c2 := HV2.out w2 hB2'
  have P3 := HP3.out w2 S2
  clear P2 S2 HP3 hB1 hB2
  go_wp2_with fail
  refine P3.mono ?_
  rintro e w3 ⟨rfl, S3, hB3⟩
  have hB3' := hB2'.trans hB3 (Grows.refl _ _)
  have c1 := HV1.out w3 hB3'
  have c2 := HV2.out w3 hB3'
  have P4 := HP4.out w3 S3
  clear P3 S3 HP4 hB2' hB3 hB3' HV1
  clear HV2
  go_wp2_with fail
  refine P4.mono ?_
  rintro e w4 ⟨rfl, S4, _⟩
  have HS4 : Hid (QS w x1 x2 y1 y2 n rows size (A2) (A2) (A2) (A2) (N + 1) (N + 1) w4) := S4
  clear P4 S4 c1
  clear c2
  go_wp2
  exact HQ.out _ _ (by unfold WKt; exact ⟨_, _, _, _, _, _, _, _, _, _, _, _, _, _, _, _, _, _, _, _, _, _, _, _, _, _, _, _, _, _, _, _, _, _, _, _, _, _, _, _, _, _, _, _, _, _, _, _, _, _, _, _, _, _, _, _, _, _, _, _, _, _, _, _, _, _, _, _, _, _, _, _, _, _, _, _, _, _, _, _, _, _, _, _, _, _, _, _, _, _, _, _, _, _, _, _, _, _, _, _, _, _, _, _, _, _, _, _, _, _, _, _, ⟨HS4.out, hN⟩, rfl⟩)
end Go.Proofs.YtilfjahbdlepjaaGreatDoor
