/- ArrayPlays, a piece: walks over the program. -/
import Derived.Test.YtilfjahbdlepjaaGreatDoorAPb
namespace Go.Proofs.YtilfjahbdlepjaaGreatDoor
open Go.RowKit El Pol Mx Lay
set_option linter.unusedVariables false in
set_option maxRecDepth 1000000 in
set_option maxHeartbeats 8000000 in
theorem p_rep (n rows size n3 c3 : Nat) (a3 : Option Addr) (x : PAd) (y : RAd) (w : World) (k M q N : Nat) (A : Arr) (v : Nat → Int) (t : List El) (s : ByteArray) (u4 u5 u6 u7 u8 u9 u11 u12 u16 u18 u19 u20 u21 u22 u23 u24 u25 u26 u27 u28 u29 u30 u31 u32 u33 u34 u35 u36 u37 u38 u39 u40 u41 u42 u43 u44 u45 u46 u47 u48 u49 u50 u51 u52 u53 u54 u55 u56 u57 u58 u59 u60 u61 u62 u63 u64 u65 u66 u67 u68 u69 u70 u71 u72 u73 u74 u75 u76 u77 u78 u79 u80 u81 u82 u83 u84 u85 u86 u87 u88 u89 u90 u91 u92 u93 u94 u95 u96 u97 u98 u99 u100 u101 u102 u103 u104 u105 u106 u107 u108 u109 u110 u111 u112 u113 u114 u115 u116 u117 u118 u119 u120 u121 u122 u123 u124 u125 u126 u127 u128 u129 u130 u131 u132 u133 u134 u135 u136 u137 u138 u139 u140 u141 u142 u143 u144 u145 u146 u147 u148 u149 u150 u151 u152 u153 u154 u155 u156 u157 u158 u159 u160 u161 u162 u163 u164 u165 u166 u167 u168 u169 u170 u171 u172 u173 u174 u175 u176 u177 u178 u179 u180 u181 u182 u183 u184 u185 u186 u187 u188 u189 u190 u191 u192 u193 u194 u195 u196 u197 u198 u199 u200 u201 u202 u203 u204 u205 u206 u207 u208 u209 u210 u211 u212 u213 u214 u215 u216 u217 u218 u219 u220 u221 u222 u223 u224 u225 u226 u227 u228 u229 u230 u231 u232 u233 u234 u235 u236 u237 u238 u239 u240 u241 u242 u243 u244 u245 u246 u247 u248 u249 u250 u251 u252 u253 u254 u255 u256 u257 u258 u259 u260 u261 u262 u263 u264 u265 u266 u267 u268 u269 u270 u271 u272 u273 u274 u275 u276 u277 u278 u279 u280 u281 u282 u283 u284 u285 u286 : Value) (wc : World) (Q : Exit → Act → World → Prop)
    (hn : 3 ≤ n ∧ n ≤ 10) (hr : 1 ≤ rows ∧ rows ≤ 20) (hz : 1 ≤ size ∧ size ≤ 16) (HG : Hid (Handle w)) (hM : M ≤ 1000) (hb : ∀ j, v j ≤ 9223372036854775807) (hS : PS w x y n rows size A A N wc) (hV : VP w x y n q wc v) (hN : N ≤ M) (h0 : v 0 = 3) (hs : s = sb t)
    (hQ : ∀ a w1, WK n rows size n3 c3 a3 x y w k M a w1 → Q Exit.normal a w1) :
    Code.wp Tryz.prog (cut [1, 1, 1, 1, 1, 1, 1, 0, 1, 2, 5, 1, 0, 2, 1, 1, 1] (Tryz.f3.body.getD .skip)) Q ⟨#[.int .i64 n, .int .i64 rows, .int .i64 size, .slice a3 n3 c3, u4, u5, u6, u7, u8, u9, .pointer (some ⟨x.p, 0, none⟩), u11, u12, .pointer (some ⟨y.p, 0, none⟩), .int .i64 ((k : Nat) : Int), .pointer (some ⟨q, 0, none⟩), u16, .string s, u18, u19, u20, u21, u22, u23, u24, u25, u26, u27, u28, u29, u30, u31, u32, u33, u34, u35, u36, u37, u38, u39, u40, u41, u42, u43, u44, u45, u46, u47, u48, u49, u50, u51, u52, u53, u54, u55, u56, u57, u58, u59, u60, u61, u62, u63, u64, u65, u66, u67, u68, u69, u70, u71, u72, u73, u74, u75, u76, u77, u78, u79, u80, u81, u82, u83, u84, u85, u86, u87, u88, u89, u90, u91, u92, u93, u94, u95, u96, u97, u98, u99, u100, u101, u102, u103, u104, u105, u106, u107, u108, u109, u110, u111, u112, u113, u114, u115, u116, u117, u118, u119, u120, u121, u122, u123, u124, u125, u126, u127, u128, u129, u130, u131, u132, u133, u134, u135, u136, u137, u138, u139, u140, u141, u142, u143, u144, u145, u146, u147, u148, u149, u150, u151, u152, u153, u154, u155, u156, u157, u158, u159, u160, u161, u162, u163, u164, u165, u166, u167, u168, u169, u170, u171, u172, u173, u174, u175, u176, u177, u178, u179, u180, u181, u182, u183, u184, u185, u186, u187, u188, u189, u190, u191, u192, u193, u194, u195, u196, u197, u198, u199, u200, u201, u202, u203, u204, u205, u206, u207, u208, u209, u210, u211, u212, u213, u214, u215, u216, u217, u218, u219, u220, u221, u222, u223, u224, u225, u226, u227, u228, u229, u230, u231, u232, u233, u234, u235, u236, u237, u238, u239, u240, u241, u242, u243, u244, u245, u246, u247, u248, u249, u250, u251, u252, u253, u254, u255, u256, u257, u258, u259, u260, u261, u262, u263, u264, u265, u266, u267, u268, u269, u270, u271, u272, u273, u274, u275, u276, u277, u278, u279, u280, u281, u282, u283, u284, u285, u286], []⟩ wc := by
  conv => arg 2; whnf
  have c0 := hV.at 0 (by omega)
  have c1 := hV.at 1 (by omega)
  have HQ : Hid _ := hQ
  have HB : Hid (∀ j, v j ≤ 9223372036854775807) := hb
  have HV : Hid (VP w x y n q wc v) := hV
  have D := hS.dreplace (v 1)
  have HP : Hid (∀ w1, PS w x y n rows size (A) (A.replace (v 1)) (N) w1 → Calls Tryz.prog 15 #[.pointer (some ⟨x.p, 0, none⟩), .int .i64 (v 1)] w1 fun e w2 => e = .returned (errV (A.replaceE (v 1))) ∧ PS w x y n rows size (A.replace (v 1)) (A.replace (v 1)) (N) w2 ∧ But (x.F n) w1 w2) := fun w1 h => h.preplace (v 1)
  have HE : Hid (∀ w1, PS w x y n rows size (A.replace (v 1)) (A.replace (v 1)) (N) w1 → Calls Tryz.prog 7 #[errV (A.replaceE (v 1)), .int .i64 ((A.replaceE (v 1) : Nat) : Int)] w1 fun e w' => e = .returned (.bool true) ∧ Below w1.heap.size w1 w') := fun w1 h => err_v _ w1 (HG.out.old h.al.low)
  have HV1 : Hid (∀ w1, But (y.F n) wc w1 → w1.cell? ⟨q, 1, none⟩ = some (.int .i64 (v 1))) := fun w1 hB => (hV.buty hB).at 1 (by omega)
  clear hQ hS hV hb
  generalize A.replaceE (v 1) = ke at D HP HE
  generalize A.replace (v 1) = A2 at D HP HE
  generalize hb1 : v 1 = b at D HP HV1 c1
  clear hb1
  rw [h0] at c0
  clear h0
  clear hs
  refine wp_seq_k fun K hK => ?_
  have HK : Hid _ := hK
  clear hK
  go_wp2_with fail
  refine D.mono ?_
  rintro e w1 ⟨rfl, S1, hB1⟩
  have c1 := HV1.out w1 hB1
  have P := HP.out w1 S1
  have HVV1 : Hid (VP w x y n q w1 v) := HV.out.buty hB1
  clear D hB1 S1 HV1 HP HV c0
  go_wp2_with fail
  refine P.mono ?_
  rintro e w2 ⟨rfl, S2, hB2⟩
  have E := HE.out w2 S2
  have HS2 : Hid (PS w x y n rows size (A2) (A2) (N) w2) := S2
  have HVV2 : Hid (VP w x y n q w2 v) := HVV1.out.butx hB2
  clear P hB2 S2 HVV1 HE c1
  generalize errV ke = ev at *
  go_wp2_with fail
  refine E.mono ?_
  rintro e w3 ⟨rfl, hB3⟩
  have HS3 : Hid (PS w x y n rows size (A2) (A2) (N) w3) := HS2.out.old hB3
  have HVV3 : Hid (VP w x y n q w3 v) := HVV2.out.old hB3
  clear E hB3 HS2 HVV2
  go_wp2
  refine HK.out _ _ ?_
  clear HK K
  exact p_tail1 n rows size n3 c3 a3 x y w k M q (N) (A2) v _ _ _ _ _ _ _ _ _ _ _ _ _ _ _ _ _ _ _ _ _ _ _ _ _ _ _ _ _ _ _ _ _ _ _ _ _ _ _ _ _ _ _ _ _ _ _ _ _ _ _ _ _ _ _ _ _ _ _ _ _ _ _ _ _ _ _ _ _ _ _ _ _ _ _ _ _ _ _ _ _ _ _ _ _ _ _ _ _ _ _ _ _ _ _ _ _ _ _ _ _ _ _ _ _ _ _ _ _ _ _ _ _ _ _ _ _ _ _ _ _ _ _ _ _ _ _ _ _ _ _ _ _ _ _ _ _ _ _ _ _ _ _ _ _ _ _ _ _ _ _ _ _ _ _ _ _ _ _ _ _ _ _ _ _ _ _ _ _ _ _ _ _ _ _ _ _ _ _ _ _ _ _ _ _ _ _ _ _ _ _ _ _ _ _ _ _ _ _ _ _ _ _ _ _ _ _ _ _ _ _ _ _ _ _ _ _ _ _ _ _ _ _ _ _ _ _ _ _ _ _ _ _ _ _ _ _ _ _ _ _ _ _ _ _ _ _ _ _ _ _ _ _ _ _ _ _ _ _ _ _ _ _ _ _ _ _ _ _ _ _ _ _ _ _ _ _ _ _ _ hn hr hz HG hM HB.out HS3.out HVV3.out hN HQ.out

set_option linter.unusedVariables false in
set_option maxRecDepth 1000000 in
set_option maxHeartbeats 8000000 in
theorem p_poke (n rows size n3 c3 : Nat) (a3 : Option Addr) (x : PAd) (y : RAd) (w : World) (k M q N : Nat) (A : Arr) (v : Nat → Int) (t : List El) (s : ByteArray) (u4 u5 u6 u7 u8 u9 u11 u12 u16 u18 u19 u20 u21 u22 u23 u24 u25 u26 u27 u28 u29 u30 u31 u32 u33 u34 u35 u36 u37 u38 u39 u40 u41 u42 u43 u44 u45 u46 u47 u48 u49 u50 u51 u52 u53 u54 u55 u56 u57 u58 u59 u60 u61 u62 u63 u64 u65 u66 u67 u68 u69 u70 u71 u72 u73 u74 u75 u76 u77 u78 u79 u80 u81 u82 u83 u84 u85 u86 u87 u88 u89 u90 u91 u92 u93 u94 u95 u96 u97 u98 u99 u100 u101 u102 u103 u104 u105 u106 u107 u108 u109 u110 u111 u112 u113 u114 u115 u116 u117 u118 u119 u120 u121 u122 u123 u124 u125 u126 u127 u128 u129 u130 u131 u132 u133 u134 u135 u136 u137 u138 u139 u140 u141 u142 u143 u144 u145 u146 u147 u148 u149 u150 u151 u152 u153 u154 u155 u156 u157 u158 u159 u160 u161 u162 u163 u164 u165 u166 u167 u168 u169 u170 u171 u172 u173 u174 u175 u176 u177 u178 u179 u180 u181 u182 u183 u184 u185 u186 u187 u188 u189 u190 u191 u192 u193 u194 u195 u196 u197 u198 u199 u200 u201 u202 u203 u204 u205 u206 u207 u208 u209 u210 u211 u212 u213 u214 u215 u216 u217 u218 u219 u220 u221 u222 u223 u224 u225 u226 u227 u228 u229 u230 u231 u232 u233 u234 u235 u236 u237 u238 u239 u240 u241 u242 u243 u244 u245 u246 u247 u248 u249 u250 u251 u252 u253 u254 u255 u256 u257 u258 u259 u260 u261 u262 u263 u264 u265 u266 u267 u268 u269 u270 u271 u272 u273 u274 u275 u276 u277 u278 u279 u280 u281 u282 u283 u284 u285 u286 : Value) (wc : World) (Q : Exit → Act → World → Prop)
    (hn : 3 ≤ n ∧ n ≤ 10) (hr : 1 ≤ rows ∧ rows ≤ 20) (hz : 1 ≤ size ∧ size ≤ 16) (HG : Hid (Handle w)) (hM : M ≤ 1000) (hb : ∀ j, v j ≤ 9223372036854775807) (hS : PS w x y n rows size A A N wc) (hV : VP w x y n q wc v) (hN : N + 1 ≤ M) (h0 : v 0 ≠ 0 ∧ v 0 ≠ 1 ∧ v 0 ≠ 2 ∧ v 0 ≠ 3 ∧ v 0 ≠ 4) (hs : s = sb t)
    (hQ : ∀ a w1, WK n rows size n3 c3 a3 x y w k M a w1 → Q Exit.normal a w1) :
    Code.wp Tryz.prog (cut [1, 1, 1, 1, 1, 1, 1, 0, 1, 2, 5, 1, 0, 2, 1, 1, 1] (Tryz.f3.body.getD .skip)) Q ⟨#[.int .i64 n, .int .i64 rows, .int .i64 size, .slice a3 n3 c3, u4, u5, u6, u7, u8, u9, .pointer (some ⟨x.p, 0, none⟩), u11, u12, .pointer (some ⟨y.p, 0, none⟩), .int .i64 ((k : Nat) : Int), .pointer (some ⟨q, 0, none⟩), u16, .string s, u18, u19, u20, u21, u22, u23, u24, u25, u26, u27, u28, u29, u30, u31, u32, u33, u34, u35, u36, u37, u38, u39, u40, u41, u42, u43, u44, u45, u46, u47, u48, u49, u50, u51, u52, u53, u54, u55, u56, u57, u58, u59, u60, u61, u62, u63, u64, u65, u66, u67, u68, u69, u70, u71, u72, u73, u74, u75, u76, u77, u78, u79, u80, u81, u82, u83, u84, u85, u86, u87, u88, u89, u90, u91, u92, u93, u94, u95, u96, u97, u98, u99, u100, u101, u102, u103, u104, u105, u106, u107, u108, u109, u110, u111, u112, u113, u114, u115, u116, u117, u118, u119, u120, u121, u122, u123, u124, u125, u126, u127, u128, u129, u130, u131, u132, u133, u134, u135, u136, u137, u138, u139, u140, u141, u142, u143, u144, u145, u146, u147, u148, u149, u150, u151, u152, u153, u154, u155, u156, u157, u158, u159, u160, u161, u162, u163, u164, u165, u166, u167, u168, u169, u170, u171, u172, u173, u174, u175, u176, u177, u178, u179, u180, u181, u182, u183, u184, u185, u186, u187, u188, u189, u190, u191, u192, u193, u194, u195, u196, u197, u198, u199, u200, u201, u202, u203, u204, u205, u206, u207, u208, u209, u210, u211, u212, u213, u214, u215, u216, u217, u218, u219, u220, u221, u222, u223, u224, u225, u226, u227, u228, u229, u230, u231, u232, u233, u234, u235, u236, u237, u238, u239, u240, u241, u242, u243, u244, u245, u246, u247, u248, u249, u250, u251, u252, u253, u254, u255, u256, u257, u258, u259, u260, u261, u262, u263, u264, u265, u266, u267, u268, u269, u270, u271, u272, u273, u274, u275, u276, u277, u278, u279, u280, u281, u282, u283, u284, u285, u286], []⟩ wc := by
  conv => arg 2; whnf
  have c0 := hV.at 0 (by omega)
  have c1 := hV.at 1 (by omega)
  have c2 := hV.at 2 (by omega)
  have HQ : Hid _ := hQ
  have HB : Hid (∀ j, v j ≤ 9223372036854775807) := hb
  have HV : Hid (VP w x y n q wc v) := hV
  have D := hS.dpoke (v 1) (v 2) t
  have HP : Hid (∀ w1, PS w x y n rows size (A) (A.poke (v 1) (v 2) t) (N) w1 → Calls Tryz.prog 19 #[.pointer (some ⟨x.p, 0, none⟩), .int .i64 (v 1), .int .i64 (v 2), st t] w1 fun e w2 => e = .returned (errV (A.pokeE (v 1) (v 2) t.length)) ∧ PS w x y n rows size (A.poke (v 1) (v 2) t) (A.poke (v 1) (v 2) t) (N + 1) w2 ∧ But (x.F n) w1 w2) := fun w1 h => h.ppoke (by omega) (v 1) (v 2) t
  have HE : Hid (∀ w1, PS w x y n rows size (A.poke (v 1) (v 2) t) (A.poke (v 1) (v 2) t) (N + 1) w1 → Calls Tryz.prog 7 #[errV (A.pokeE (v 1) (v 2) t.length), .int .i64 ((A.pokeE (v 1) (v 2) t.length : Nat) : Int)] w1 fun e w' => e = .returned (.bool true) ∧ Below w1.heap.size w1 w') := fun w1 h => err_v _ w1 (HG.out.old h.al.low)
  have HV1 : Hid (∀ w1, But (y.F n) wc w1 → w1.cell? ⟨q, 1, none⟩ = some (.int .i64 (v 1))) := fun w1 hB => (hV.buty hB).at 1 (by omega)
  have HV2 : Hid (∀ w1, But (y.F n) wc w1 → w1.cell? ⟨q, 2, none⟩ = some (.int .i64 (v 2))) := fun w1 hB => (hV.buty hB).at 2 (by omega)
  clear hQ hS hV hb
  generalize A.pokeE (v 1) (v 2) t.length = ke at D HP HE
  generalize A.poke (v 1) (v 2) t = A2 at D HP HE
  generalize hb1 : v 1 = b at D HP HV1 c1
  clear hb1
  generalize hb2 : v 2 = b2 at D HP HV2 c2
  clear hb2
  generalize v 0 = y0 at c0 h0
  obtain ⟨p0, p1, p2, p3, p4⟩ := h0
  have e0 : (y0 == 0) = false := by rw [beq_eq_false_iff_ne]; exact p0
  have e1 : (y0 == 1) = false := by rw [beq_eq_false_iff_ne]; exact p1
  have e2 : (y0 == 2) = false := by rw [beq_eq_false_iff_ne]; exact p2
  have e3 : (y0 == 3) = false := by rw [beq_eq_false_iff_ne]; exact p3
  have e4 : (y0 == 4) = false := by rw [beq_eq_false_iff_ne]; exact p4
  clear p0 p1 p2 p3 p4
  unfold st at D HP
  rw [← hs] at D HP
  clear hs
  refine wp_seq_k fun K hK => ?_
  have HK : Hid _ := hK
  clear hK
  go_wp2_with fail
  refine D.mono ?_
  rintro e w1 ⟨rfl, S1, hB1⟩
  have c1 := HV1.out w1 hB1
  have c2 := HV2.out w1 hB1
  have P := HP.out w1 S1
  have HVV1 : Hid (VP w x y n q w1 v) := HV.out.buty hB1
  clear D hB1 S1 HV1 HP HV c0
  clear HV2
  go_wp2_with fail
  refine P.mono ?_
  rintro e w2 ⟨rfl, S2, hB2⟩
  have E := HE.out w2 S2
  have HS2 : Hid (PS w x y n rows size (A2) (A2) (N + 1) w2) := S2
  have HVV2 : Hid (VP w x y n q w2 v) := HVV1.out.butx hB2
  clear P hB2 S2 HVV1 HE c1
  clear c2
  generalize errV ke = ev at *
  go_wp2_with fail
  refine E.mono ?_
  rintro e w3 ⟨rfl, hB3⟩
  have HS3 : Hid (PS w x y n rows size (A2) (A2) (N + 1) w3) := HS2.out.old hB3
  have HVV3 : Hid (VP w x y n q w3 v) := HVV2.out.old hB3
  clear E hB3 HS2 HVV2
  go_wp2
  refine HK.out _ _ ?_
  clear HK K
  exact p_tail1 n rows size n3 c3 a3 x y w k M q (N + 1) (A2) v _ _ _ _ _ _ _ _ _ _ _ _ _ _ _ _ _ _ _ _ _ _ _ _ _ _ _ _ _ _ _ _ _ _ _ _ _ _ _ _ _ _ _ _ _ _ _ _ _ _ _ _ _ _ _ _ _ _ _ _ _ _ _ _ _ _ _ _ _ _ _ _ _ _ _ _ _ _ _ _ _ _ _ _ _ _ _ _ _ _ _ _ _ _ _ _ _ _ _ _ _ _ _ _ _ _ _ _ _ _ _ _ _ _ _ _ _ _ _ _ _ _ _ _ _ _ _ _ _ _ _ _ _ _ _ _ _ _ _ _ _ _ _ _ _ _ _ _ _ _ _ _ _ _ _ _ _ _ _ _ _ _ _ _ _ _ _ _ _ _ _ _ _ _ _ _ _ _ _ _ _ _ _ _ _ _ _ _ _ _ _ _ _ _ _ _ _ _ _ _ _ _ _ _ _ _ _ _ _ _ _ _ _ _ _ _ _ _ _ _ _ _ _ _ _ _ _ _ _ _ _ _ _ _ _ _ _ _ _ _ _ _ _ _ _ _ _ _ _ _ _ _ _ _ _ _ _ _ _ _ _ _ _ _ _ _ _ _ _ _ _ _ _ _ _ _ _ _ _ _ hn hr hz HG hM HB.out HS3.out HVV3.out hN HQ.out

set_option linter.unusedVariables false in
set_option maxRecDepth 1000000 in
set_option maxHeartbeats 8000000 in
theorem p_reb (n rows size n3 c3 : Nat) (a3 : Option Addr) (x : PAd) (y : RAd) (w : World) (k M q N : Nat) (A : Arr) (v : Nat → Int) (t : List El) (s : ByteArray) (u4 u5 u6 u7 u8 u9 u11 u12 u16 u18 u19 u20 u21 u22 u23 u24 u25 u26 u27 u28 u29 u30 u31 u32 u33 u34 u35 u36 u37 u38 u39 u40 u41 u42 u43 u44 u45 u46 u47 u48 u49 u50 u51 u52 u53 u54 u55 u56 u57 u58 u59 u60 u61 u62 u63 u64 u65 u66 u67 u68 u69 u70 u71 u72 u73 u74 u75 u76 u77 u78 u79 u80 u81 u82 u83 u84 u85 u86 u87 u88 u89 u90 u91 u92 u93 u94 u95 u96 u97 u98 u99 u100 u101 u102 u103 u104 u105 u106 u107 u108 u109 u110 u111 u112 u113 u114 u115 u116 u117 u118 u119 u120 u121 u122 u123 u124 u125 u126 u127 u128 u129 u130 u131 u132 u133 u134 u135 u136 u137 u138 u139 u140 u141 u142 u143 u144 u145 u146 u147 u148 u149 u150 u151 u152 u153 u154 u155 u156 u157 u158 u159 u160 u161 u162 u163 u164 u165 u166 u167 u168 u169 u170 u171 u172 u173 u174 u175 u176 u177 u178 u179 u180 u181 u182 u183 u184 u185 u186 u187 u188 u189 u190 u191 u192 u193 u194 u195 u196 u197 u198 u199 u200 u201 u202 u203 u204 u205 u206 u207 u208 u209 u210 u211 u212 u213 u214 u215 u216 u217 u218 u219 u220 u221 u222 u223 u224 u225 u226 u227 u228 u229 u230 u231 u232 u233 u234 u235 u236 u237 u238 u239 u240 u241 u242 u243 u244 u245 u246 u247 u248 u249 u250 u251 u252 u253 u254 u255 u256 u257 u258 u259 u260 u261 u262 u263 u264 u265 u266 u267 u268 u269 u270 u271 u272 u273 u274 u275 u276 u277 u278 u279 u280 u281 u282 u283 u284 u285 u286 : Value) (wc : World) (Q : Exit → Act → World → Prop)
    (hn : 3 ≤ n ∧ n ≤ 10) (hr : 1 ≤ rows ∧ rows ≤ 20) (hz : 1 ≤ size ∧ size ≤ 16) (HG : Hid (Handle w)) (hM : M ≤ 1000) (hb : ∀ j, v j ≤ 9223372036854775807) (hS : PS w x y n rows size A A N wc) (hV : VP w x y n q wc v) (hN : N + 1 ≤ M) (h0 : v 0 = 4) (hs : s = sb t)
    (hQ : ∀ a w1, WK n rows size n3 c3 a3 x y w k M a w1 → Q Exit.normal a w1) :
    Code.wp Tryz.prog (cut [1, 1, 1, 1, 1, 1, 1, 0, 1, 2, 5, 1, 0, 2, 1, 1, 1] (Tryz.f3.body.getD .skip)) Q ⟨#[.int .i64 n, .int .i64 rows, .int .i64 size, .slice a3 n3 c3, u4, u5, u6, u7, u8, u9, .pointer (some ⟨x.p, 0, none⟩), u11, u12, .pointer (some ⟨y.p, 0, none⟩), .int .i64 ((k : Nat) : Int), .pointer (some ⟨q, 0, none⟩), u16, .string s, u18, u19, u20, u21, u22, u23, u24, u25, u26, u27, u28, u29, u30, u31, u32, u33, u34, u35, u36, u37, u38, u39, u40, u41, u42, u43, u44, u45, u46, u47, u48, u49, u50, u51, u52, u53, u54, u55, u56, u57, u58, u59, u60, u61, u62, u63, u64, u65, u66, u67, u68, u69, u70, u71, u72, u73, u74, u75, u76, u77, u78, u79, u80, u81, u82, u83, u84, u85, u86, u87, u88, u89, u90, u91, u92, u93, u94, u95, u96, u97, u98, u99, u100, u101, u102, u103, u104, u105, u106, u107, u108, u109, u110, u111, u112, u113, u114, u115, u116, u117, u118, u119, u120, u121, u122, u123, u124, u125, u126, u127, u128, u129, u130, u131, u132, u133, u134, u135, u136, u137, u138, u139, u140, u141, u142, u143, u144, u145, u146, u147, u148, u149, u150, u151, u152, u153, u154, u155, u156, u157, u158, u159, u160, u161, u162, u163, u164, u165, u166, u167, u168, u169, u170, u171, u172, u173, u174, u175, u176, u177, u178, u179, u180, u181, u182, u183, u184, u185, u186, u187, u188, u189, u190, u191, u192, u193, u194, u195, u196, u197, u198, u199, u200, u201, u202, u203, u204, u205, u206, u207, u208, u209, u210, u211, u212, u213, u214, u215, u216, u217, u218, u219, u220, u221, u222, u223, u224, u225, u226, u227, u228, u229, u230, u231, u232, u233, u234, u235, u236, u237, u238, u239, u240, u241, u242, u243, u244, u245, u246, u247, u248, u249, u250, u251, u252, u253, u254, u255, u256, u257, u258, u259, u260, u261, u262, u263, u264, u265, u266, u267, u268, u269, u270, u271, u272, u273, u274, u275, u276, u277, u278, u279, u280, u281, u282, u283, u284, u285, u286], []⟩ wc := by
  conv => arg 2; whnf
  have c0 := hV.at 0 (by omega)
  have c1 := hV.at 1 (by omega)
  have HQ : Hid _ := hQ
  have HB : Hid (∀ j, v j ≤ 9223372036854775807) := hb
  have HV : Hid (VP w x y n q wc v) := hV
  have D := hS.drebuild (v 1)
  have HP : Hid (∀ w1, PS w x y n rows size A (A.rebuild (v 1)) N w1 → Calls Tryz.prog 17 #[.pointer (some ⟨x.p, 0, none⟩), .int .i64 (v 1)] w1 fun e w2 => e = .returned (.tuple #[.int .i64 (A.rebuildN (v 1)), errV (A.rebuildE (v 1))]) ∧ PS w x y n rows size (A.rebuild (v 1)) (A.rebuild (v 1)) (N + 1) w2 ∧ But (x.F n) w1 w2) := fun w1 h => h.prebuild (by omega) (v 1)
  have HE : Hid (∀ w1, PS w x y n rows size (A.rebuild (v 1)) (A.rebuild (v 1)) (N + 1) w1 → Calls Tryz.prog 7 #[errV (A.rebuildE (v 1)), .int .i64 ((A.rebuildE (v 1) : Nat) : Int)] w1 fun e w' => e = .returned (.bool true) ∧ Below w1.heap.size w1 w') := fun w1 h => err_v _ w1 (HG.out.old h.al.low)
  have HV1 : Hid (∀ w1, But (y.F n) wc w1 → w1.cell? ⟨q, 1, none⟩ = some (.int .i64 (v 1))) := fun w1 hB => (hV.buty hB).at 1 (by omega)
  clear hQ hS hV hb
  generalize A.rebuildE (v 1) = ke at D HP HE
  generalize A.rebuildN (v 1) = kn at D HP
  generalize A.rebuild (v 1) = A2 at D HP HE
  generalize hb1 : v 1 = b at D HP HV1 c1
  clear hb1
  rw [h0] at c0
  clear h0
  refine wp_seq_k fun K hK => ?_
  have HK : Hid _ := hK
  clear hK
  go_wp2_with fail
  refine D.mono ?_
  rintro e w1 ⟨rfl, S1, hB1⟩
  have c1 := HV1.out w1 hB1
  have P := HP.out w1 S1
  have HVV1 : Hid (VP w x y n q w1 v) := HV.out.buty hB1
  clear D hB1 S1 HV1 HP HV c0
  go_wp2_with fail
  refine P.mono ?_
  rintro e w2 ⟨rfl, S2, hB2⟩
  have E := HE.out w2 S2
  have HS2 : Hid (PS w x y n rows size A2 A2 (N + 1) w2) := S2
  have HVV2 : Hid (VP w x y n q w2 v) := HVV1.out.butx hB2
  clear P hB2 S2 HVV1 HE c1
  generalize errV ke = ev at *
  go_wp2_with fail
  refine E.mono ?_
  rintro e w3 ⟨rfl, hB3⟩
  have HS3 : Hid (PS w x y n rows size A2 A2 (N + 1) w3) := HS2.out.old hB3
  have HVV3 : Hid (VP w x y n q w3 v) := HVV2.out.old hB3
  clear E hB3 HS2 HVV2
  go_wp2
  refine HK.out _ _ ?_
  clear HK K
  exact p_tail1 n rows size n3 c3 a3 x y w k M q (N + 1) (A2) v _ _ _ _ _ _ _ _ _ _ _ _ _ _ _ _ _ _ _ _ _ _ _ _ _ _ _ _ _ _ _ _ _ _ _ _ _ _ _ _ _ _ _ _ _ _ _ _ _ _ _ _ _ _ _ _ _ _ _ _ _ _ _ _ _ _ _ _ _ _ _ _ _ _ _ _ _ _ _ _ _ _ _ _ _ _ _ _ _ _ _ _ _ _ _ _ _ _ _ _ _ _ _ _ _ _ _ _ _ _ _ _ _ _ _ _ _ _ _ _ _ _ _ _ _ _ _ _ _ _ _ _ _ _ _ _ _ _ _ _ _ _ _ _ _ _ _ _ _ _ _ _ _ _ _ _ _ _ _ _ _ _ _ _ _ _ _ _ _ _ _ _ _ _ _ _ _ _ _ _ _ _ _ _ _ _ _ _ _ _ _ _ _ _ _ _ _ _ _ _ _ _ _ _ _ _ _ _ _ _ _ _ _ _ _ _ _ _ _ _ _ _ _ _ _ _ _ _ _ _ _ _ _ _ _ _ _ _ _ _ _ _ _ _ _ _ _ _ _ _ _ _ _ _ _ _ _ _ _ _ _ _ _ _ _ _ _ _ _ _ _ _ _ _ _ _ _ _ _ _ hn hr hz HG hM HB.out HS3.out HVV3.out hN HQ.out
end Go.Proofs.YtilfjahbdlepjaaGreatDoor
