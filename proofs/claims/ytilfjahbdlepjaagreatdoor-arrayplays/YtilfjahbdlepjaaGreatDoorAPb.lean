/- ArrayPlays, a piece: walks over the program. -/
import Derived.Test.YtilfjahbdlepjaaGreatDoorAPa
import Derived.Test.YtilfjahbdlepjaaGreatDoorBools
import Derived.Test.YtilfjahbdlepjaaGreatDoorAk
import Derived.Test.YtilfjahbdlepjaaGreatDoorEr
import Derived.Test.YtilfjahbdlepjaaGreatDoorPa
import Derived.Test.YtilfjahbdlepjaaGreatDoorPw
import Derived.Deep.Cut
import Derived.Deep.CutRange
import Derived.BigCall
import Derived.BigGuard
namespace Go.Proofs.YtilfjahbdlepjaaGreatDoor
open Go.RowKit El Pol Mx Lay
set_option maxRecDepth 1000000 in
/-- between two steps -/
def WK (n rows size n3 c3 : Nat) (a3 : Option Addr) (x : PAd) (y : RAd) (w : World) (k M : Nat) (a : Act) (w' : World) : Prop := ∃ (u4 u5 u6 u7 u8 u9 u11 u12 u15 u16 u17 u18 u19 u20 u21 u22 u23 u24 u25 u26 u27 u28 u29 u30 u31 u32 u33 u34 u35 u36 u37 u38 u39 u40 u41 u42 u43 u44 u45 u46 u47 u48 u49 u50 u51 u52 u53 u54 u55 u56 u57 u58 u59 u60 u61 u62 u63 u64 u65 u66 u67 u68 u69 u70 u71 u72 u73 u74 u75 u76 u77 u78 u79 u80 u81 u82 u83 u84 u85 u86 u87 u88 u89 u90 u91 u92 u93 u94 u95 u96 u97 u98 u99 u100 u101 u102 u103 u104 u105 u106 u107 u108 u109 u110 u111 u112 u113 u114 u115 u116 u117 u118 u119 u120 u121 u122 u123 u124 u125 u126 u127 u128 u129 u130 u131 u132 u133 u134 u135 u136 u137 u138 u139 u140 u141 u142 u143 u144 u145 u146 u147 u148 u149 u150 u151 u152 u153 u154 u155 u156 u157 u158 u159 u160 u161 u162 u163 u164 u165 u166 u167 u168 u169 u170 u171 u172 u173 u174 u175 u176 u177 u178 u179 u180 u181 u182 u183 u184 u185 u186 u187 u188 u189 u190 u191 u192 u193 u194 u195 u196 u197 u198 u199 u200 u201 u202 u203 u204 u205 u206 u207 u208 u209 u210 u211 u212 u213 u214 u215 u216 u217 u218 u219 u220 u221 u222 u223 u224 u225 u226 u227 u228 u229 u230 u231 u232 u233 u234 u235 u236 u237 u238 u239 u240 u241 u242 u243 u244 u245 u246 u247 u248 u249 u250 u251 u252 u253 u254 u255 u256 u257 u258 u259 u260 u261 u262 u263 u264 u265 u266 u267 u268 u269 u270 u271 u272 u273 u274 u275 u276 u277 u278 u279 u280 u281 u282 u283 u284 u285 u286 : Value) (A : Arr) (N : Nat), (PS w x y n rows size A A N w' ∧ N ≤ M) ∧ a = ⟨#[.int .i64 n, .int .i64 rows, .int .i64 size, .slice a3 n3 c3, u4, u5, u6, u7, u8, u9, .pointer (some ⟨x.p, 0, none⟩), u11, u12, .pointer (some ⟨y.p, 0, none⟩), .int .i64 ((k : Nat) : Int), u15, u16, u17, u18, u19, u20, u21, u22, u23, u24, u25, u26, u27, u28, u29, u30, u31, u32, u33, u34, u35, u36, u37, u38, u39, u40, u41, u42, u43, u44, u45, u46, u47, u48, u49, u50, u51, u52, u53, u54, u55, u56, u57, u58, u59, u60, u61, u62, u63, u64, u65, u66, u67, u68, u69, u70, u71, u72, u73, u74, u75, u76, u77, u78, u79, u80, u81, u82, u83, u84, u85, u86, u87, u88, u89, u90, u91, u92, u93, u94, u95, u96, u97, u98, u99, u100, u101, u102, u103, u104, u105, u106, u107, u108, u109, u110, u111, u112, u113, u114, u115, u116, u117, u118, u119, u120, u121, u122, u123, u124, u125, u126, u127, u128, u129, u130, u131, u132, u133, u134, u135, u136, u137, u138, u139, u140, u141, u142, u143, u144, u145, u146, u147, u148, u149, u150, u151, u152, u153, u154, u155, u156, u157, u158, u159, u160, u161, u162, u163, u164, u165, u166, u167, u168, u169, u170, u171, u172, u173, u174, u175, u176, u177, u178, u179, u180, u181, u182, u183, u184, u185, u186, u187, u188, u189, u190, u191, u192, u193, u194, u195, u196, u197, u198, u199, u200, u201, u202, u203, u204, u205, u206, u207, u208, u209, u210, u211, u212, u213, u214, u215, u216, u217, u218, u219, u220, u221, u222, u223, u224, u225, u226, u227, u228, u229, u230, u231, u232, u233, u234, u235, u236, u237, u238, u239, u240, u241, u242, u243, u244, u245, u246, u247, u248, u249, u250, u251, u252, u253, u254, u255, u256, u257, u258, u259, u260, u261, u262, u263, u264, u265, u266, u267, u268, u269, u270, u271, u272, u273, u274, u275, u276, u277, u278, u279, u280, u281, u282, u283, u284, u285, u286], []⟩

set_option linter.unusedVariables false in
set_option maxRecDepth 1000000 in
set_option maxHeartbeats 16000000 in
theorem p_tail2 (n rows size n3 c3 : Nat) (a3 : Option Addr) (x : PAd) (y : RAd) (w : World) (k M q N : Nat) (A : Arr) (v : Nat → Int) (u4 u5 u6 u7 u8 u9 u11 u16 u17 u18 u19 u20 u21 u22 u23 u24 u25 u27 u28 u29 u30 u31 u32 u33 u34 u35 u36 u37 u38 u39 u40 u41 u42 u43 u44 u45 u46 u47 u48 u49 u50 u51 u52 u53 u54 u55 u56 u57 u58 u59 u60 u61 u62 u63 u64 u65 u66 u67 u68 u69 u70 u71 u72 u73 u74 u75 u76 u77 u78 u79 u80 u81 u82 u83 u84 u85 u86 u87 u88 u89 u90 u91 u92 u93 u94 u95 u96 u97 u98 u99 u100 u101 u102 u103 u104 u105 u106 u107 u108 u109 u110 u111 u112 u113 u114 u115 u116 u117 u118 u119 u120 u121 u122 u123 u124 u125 u126 u127 u128 u129 u130 u131 u132 u133 u134 u135 u136 u137 u138 u139 u140 u141 u142 u143 u144 u145 u146 u147 u148 u149 u150 u151 u152 u153 u154 u155 u156 u157 u158 u159 u160 u161 u162 u163 u164 u165 u166 u167 u168 u169 u170 u171 u172 u173 u174 u175 u176 u177 u178 u179 u180 u181 u182 u183 u184 u185 u186 u187 u188 u189 u190 u191 u192 u193 u194 u195 u196 u197 u198 u199 u200 u201 u202 u203 u204 u205 u206 u207 u208 u209 u210 u211 u212 u213 u214 u215 u216 u217 u218 u219 u220 u221 u222 u223 u224 u225 u226 u227 u228 u229 u230 u231 u232 u233 u234 u235 u236 u237 u238 u239 u240 u241 u242 u243 u244 u245 u246 u247 u248 u249 u250 u251 u252 u253 u254 u255 u256 u257 u258 u259 u260 u261 u262 u263 u264 u265 u266 u267 u268 u269 u270 u271 u272 u273 u274 u275 u276 u277 u278 u279 u280 u281 u282 u283 u284 u285 u286 : Value) (wc : World) (Q : Exit → Act → World → Prop)
    (hn : 3 ≤ n ∧ n ≤ 10) (hr : 1 ≤ rows ∧ rows ≤ 20) (hz : 1 ≤ size ∧ size ≤ 16) (HG : Hid (Handle w)) (hM : M ≤ 1000) (hb : ∀ j, v j ≤ 9223372036854775807) (hS : PS w x y n rows size A A N wc) (hV : VP w x y n q wc v) (hN : N ≤ M)
    (hQ : ∀ a w1, WK n rows size n3 c3 a3 x y w k M a w1 → Q Exit.normal a w1) :
    Code.wp Tryz.prog (cut [1, 1, 1, 1, 1, 1, 1, 0, 1, 2, 5, 1, 0, 2, 1, 1, 1, 1, 1, 1, 1] (Tryz.f3.body.getD .skip)) Q ⟨#[.int .i64 n, .int .i64 rows, .int .i64 size, .slice a3 n3 c3, u4, u5, u6, u7, u8, u9, .pointer (some ⟨x.p, 0, none⟩), u11, .bool true, .pointer (some ⟨y.p, 0, none⟩), .int .i64 ((k : Nat) : Int), .pointer (some ⟨q, 0, none⟩), u16, u17, u18, u19, u20, u21, u22, u23, u24, u25, .bool true, u27, u28, u29, u30, u31, u32, u33, u34, u35, u36, u37, u38, u39, u40, u41, u42, u43, u44, u45, u46, u47, u48, u49, u50, u51, u52, u53, u54, u55, u56, u57, u58, u59, u60, u61, u62, u63, u64, u65, u66, u67, u68, u69, u70, u71, u72, u73, u74, u75, u76, u77, u78, u79, u80, u81, u82, u83, u84, u85, u86, u87, u88, u89, u90, u91, u92, u93, u94, u95, u96, u97, u98, u99, u100, u101, u102, u103, u104, u105, u106, u107, u108, u109, u110, u111, u112, u113, u114, u115, u116, u117, u118, u119, u120, u121, u122, u123, u124, u125, u126, u127, u128, u129, u130, u131, u132, u133, u134, u135, u136, u137, u138, u139, u140, u141, u142, u143, u144, u145, u146, u147, u148, u149, u150, u151, u152, u153, u154, u155, u156, u157, u158, u159, u160, u161, u162, u163, u164, u165, u166, u167, u168, u169, u170, u171, u172, u173, u174, u175, u176, u177, u178, u179, u180, u181, u182, u183, u184, u185, u186, u187, u188, u189, u190, u191, u192, u193, u194, u195, u196, u197, u198, u199, u200, u201, u202, u203, u204, u205, u206, u207, u208, u209, u210, u211, u212, u213, u214, u215, u216, u217, u218, u219, u220, u221, u222, u223, u224, u225, u226, u227, u228, u229, u230, u231, u232, u233, u234, u235, u236, u237, u238, u239, u240, u241, u242, u243, u244, u245, u246, u247, u248, u249, u250, u251, u252, u253, u254, u255, u256, u257, u258, u259, u260, u261, u262, u263, u264, u265, u266, u267, u268, u269, u270, u271, u272, u273, u274, u275, u276, u277, u278, u279, u280, u281, u282, u283, u284, u285, u286], []⟩ wc := by
  conv => arg 2; whnf
  have c2 := hV.at 2 (by omega)
  have HQ : Hid _ := hQ
  have HS : Hid (PS w x y n rows size A A N wc) := hS
  by_cases h1 : A.noR (v 2)
  · have LO := pa_lostN hS.al.pa hS.ia.1 (v 2)
    unfold Arr.lostN Arr.lostE at LO
    rw [if_pos h1, if_pos h1, errV, if_neg (by omega)] at LO
    have h2 : v 2 < 0 ∨ (rows : Int) ≤ v 2 := by
      unfold Arr.noR at h1
      rw [hS.ia.2.2.1] at h1
      exact h1
    have HV1 : Hid (∀ w1, Below wc.heap.size wc w1 → w1.cell? ⟨q, 2, none⟩ = some (.int .i64 (v 2))) := fun w1 hB => (hV.old hB).at 2 (by omega)
    have HR : Hid (∀ w1, PS w x y n rows size A A N w1 → Calls Tryz.prog 25 #[.pointer (some ⟨x.p, 0, none⟩), .int .i64 (v 2)] w1 fun e w' => e = .returned (.tuple #[.slice none 0 0, .slice none 0 0, .iface 77 (.int .i64 1)]) ∧ w' = w1) := fun w1 h => by
      have := pa_raw_bad h.al.pa (v 2) h1
      rw [errV, if_neg (by omega)] at this
      exact this
    have HE : Hid (∀ w1, PS w x y n rows size A A N w1 → Calls Tryz.prog 7 #[.iface 77 (.int .i64 1), .int .i64 1] w1 fun e w' => e = .returned (.bool true) ∧ Below w1.heap.size w1 w') := fun w1 h => err_same 1 w1 (HG.out.old h.al.low)
    have HT : Hid (∀ w1, Calls Tryz.prog 26 #[.slice none 0 0, .slice none 0 0] w1 fun e w' => e = .returned (.bool true) ∧ Below w1.heap.size w1 w') := fun w1 => by
      have := texts_any (.slice none 0 0) (.slice none 0 0) 0 0 (fun _ => []) (fun _ => []) w1 (rdf_none _ _) (rdf_none _ _)
      rw [sameL_iff.2 ⟨rfl, fun _ _ => rfl⟩] at this
      exact this
    have HB : Hid (∀ w1, Calls Tryz.prog 27 #[.slice none 0 0, .slice none 0 0] w1 fun e w' => e = .returned (.bool true) ∧ Below w1.heap.size w1 w') := fun w1 => bools_same (.slice none 0 0) (.slice none 0 0) 0 (fun _ => false) w1 (rdf_none _ _) (rdf_none _ _)
    clear hQ hS hV h1 hb
    generalize v 2 = b at *
    by_cases h3 : b < 0
    · clear h2
      go_wp2_with fail
      refine LO.mono ?_
      rintro e w1 ⟨rfl, hw⟩
      obtain rfl := hw.symm
      have E := HE.out wc HS.out
      clear LO hw
      go_wp2_with fail
      refine E.mono ?_
      rintro e w1 ⟨rfl, hB1⟩
      have c2 := HV1.out w1 hB1
      have S1 := HS.out.old hB1
      have R := HR.out w1 S1
      have HS1 : Hid (PS w x y n rows size A A N w1) := S1
      clear E hB1 HS S1 HV1
      go_wp2_with fail
      refine R.mono ?_
      rintro e w2 ⟨rfl, hw⟩
      obtain rfl := hw.symm
      have E := HE.out w1 HS1.out
      clear R hw c2
      go_wp2_with fail
      refine E.mono ?_
      rintro e w2 ⟨rfl, hB2⟩
      have HS2 : Hid (PS w x y n rows size A A N w2) := HS1.out.old hB2
      have T := HT.out w2
      clear E hB2 HS1
      go_wp2_with fail
      refine T.mono ?_
      rintro e w3 ⟨rfl, hB3⟩
      have HS3 : Hid (PS w x y n rows size A A N w3) := HS2.out.old hB3
      have T2 := HB.out w3
      clear T hB3 HS2
      go_wp2_with fail
      refine T2.mono ?_
      rintro e w4 ⟨rfl, hB4⟩
      have HS4 : Hid (PS w x y n rows size A A N w4) := HS3.out.old hB4
      clear T2 hB4 HS3
      go_wp2
      exact HQ.out _ _ (by unfold WK; exact ⟨_, _, _, _, _, _, _, _, _, _, _, _, _, _, _, _, _, _, _, _, _, _, _, _, _, _, _, _, _, _, _, _, _, _, _, _, _, _, _, _, _, _, _, _, _, _, _, _, _, _, _, _, _, _, _, _, _, _, _, _, _, _, _, _, _, _, _, _, _, _, _, _, _, _, _, _, _, _, _, _, _, _, _, _, _, _, _, _, _, _, _, _, _, _, _, _, _, _, _, _, _, _, _, _, _, _, _, _, _, _, _, _, _, _, _, _, _, _, _, _, _, _, _, _, _, _, _, _, _, _, _, _, _, _, _, _, _, _, _, _, _, _, _, _, _, _, _, _, _, _, _, _, _, _, _, _, _, _, _, _, _, _, _, _, _, _, _, _, _, _, _, _, _, _, _, _, _, _, _, _, _, _, _, _, _, _, _, _, _, _, _, _, _, _, _, _, _, _, _, _, _, _, _, _, _, _, _, _, _, _, _, _, _, _, _, _, _, _, _, _, _, _, _, _, _, _, _, _, _, _, _, _, _, _, _, _, _, _, _, _, _, _, _, _, _, _, _, _, _, _, _, _, _, _, _, _, _, _, _, _, _, _, _, _, _, _, _, _, _, _, _, _, _, _, _, _, _, _, _, _, _, _, ⟨HS4.out, hN⟩, rfl⟩)
    · have h4 : (rows : Int) ≤ b := h2.resolve_left h3
      clear h2
      go_wp2_with fail
      refine LO.mono ?_
      rintro e w1 ⟨rfl, hw⟩
      obtain rfl := hw.symm
      have E := HE.out wc HS.out
      clear LO hw
      go_wp2_with fail
      refine E.mono ?_
      rintro e w1 ⟨rfl, hB1⟩
      have c2 := HV1.out w1 hB1
      have S1 := HS.out.old hB1
      have R := HR.out w1 S1
      have HS1 : Hid (PS w x y n rows size A A N w1) := S1
      clear E hB1 HS S1 HV1
      go_wp2_with fail
      refine R.mono ?_
      rintro e w2 ⟨rfl, hw⟩
      obtain rfl := hw.symm
      have E := HE.out w1 HS1.out
      clear R hw c2
      go_wp2_with fail
      refine E.mono ?_
      rintro e w2 ⟨rfl, hB2⟩
      have HS2 : Hid (PS w x y n rows size A A N w2) := HS1.out.old hB2
      have T := HT.out w2
      clear E hB2 HS1
      go_wp2_with fail
      refine T.mono ?_
      rintro e w3 ⟨rfl, hB3⟩
      have HS3 : Hid (PS w x y n rows size A A N w3) := HS2.out.old hB3
      have T2 := HB.out w3
      clear T hB3 HS2
      go_wp2_with fail
      refine T2.mono ?_
      rintro e w4 ⟨rfl, hB4⟩
      have HS4 : Hid (PS w x y n rows size A A N w4) := HS3.out.old hB4
      clear T2 hB4 HS3
      go_wp2
      exact HQ.out _ _ (by unfold WK; exact ⟨_, _, _, _, _, _, _, _, _, _, _, _, _, _, _, _, _, _, _, _, _, _, _, _, _, _, _, _, _, _, _, _, _, _, _, _, _, _, _, _, _, _, _, _, _, _, _, _, _, _, _, _, _, _, _, _, _, _, _, _, _, _, _, _, _, _, _, _, _, _, _, _, _, _, _, _, _, _, _, _, _, _, _, _, _, _, _, _, _, _, _, _, _, _, _, _, _, _, _, _, _, _, _, _, _, _, _, _, _, _, _, _, _, _, _, _, _, _, _, _, _, _, _, _, _, _, _, _, _, _, _, _, _, _, _, _, _, _, _, _, _, _, _, _, _, _, _, _, _, _, _, _, _, _, _, _, _, _, _, _, _, _, _, _, _, _, _, _, _, _, _, _, _, _, _, _, _, _, _, _, _, _, _, _, _, _, _, _, _, _, _, _, _, _, _, _, _, _, _, _, _, _, _, _, _, _, _, _, _, _, _, _, _, _, _, _, _, _, _, _, _, _, _, _, _, _, _, _, _, _, _, _, _, _, _, _, _, _, _, _, _, _, _, _, _, _, _, _, _, _, _, _, _, _, _, _, _, _, _, _, _, _, _, _, _, _, _, _, _, _, _, _, _, _, _, _, _, _, _, _, _, _, ⟨HS4.out, hN⟩, rfl⟩)
  · have h2 : ¬ (v 2 < 0 ∨ (rows : Int) ≤ v 2) := fun h => h1 (by
      unfold Arr.noR
      rw [hS.ia.2.2.1]
      exact h)
    obtain ⟨r, hv⟩ : ∃ r : Nat, v 2 = r := ⟨(v 2).toNat, by omega⟩
    have hrr : r < rows := by omega
    rw [hv] at c2
    have LO := ra_lost hS.ra hS.ic.1 r
    have RO := ra_raw hS.ra hS.ic.1 r (by rw [hS.ic.2.2.1]; exact hrr)
    rw [hS.ic.2.1] at RO
    have HV1 : Hid (∀ w1, Below wc.heap.size wc w1 → w1.cell? ⟨q, 2, none⟩ = some (.int .i64 (r : Int))) := fun w1 hB => by rw [(hV.old hB).at 2 (by omega), hv]
    have HL : Hid (∀ w1, PS w x y n rows size A A N w1 → Calls Tryz.prog 24 #[.pointer (some ⟨x.p, 0, none⟩), .int .i64 r] w1 fun e w' => e = .returned (.tuple #[.int .i64 (A.nl r), .nilIface]) ∧ w' = w1) := fun w1 h => by
      have := pa_lostN h.al.pa h.ia.1 (r : Int)
      rw [hv] at h1
      unfold Arr.lostN Arr.lostE at this
      rw [if_neg h1, if_neg h1, Int.toNat_natCast, errV, if_pos rfl] at this
      exact this
    have HR : Hid (∀ w1, PS w x y n rows size A A N w1 → Calls Tryz.prog 25 #[.pointer (some ⟨x.p, 0, none⟩), .int .i64 r] w1 fun e w' => ∃ (g1 g2 : Nat), e = .returned (.tuple #[.slice (some ⟨g1, 0, none⟩) n n, .slice (some ⟨g2, 0, none⟩) n n, .nilIface]) ∧
        RowAt w' g1 n (fun i => st (A.part r i)) ∧ RowAt w' g2 n (fun i => .bool (A.lo r i)) ∧ (w1.heap.size ≤ g1 ∧ w1.heap.size ≤ g2) ∧ Below w1.heap.size w1 w') := fun w1 h => by
      have := pa_raw h.al.pa h.ia.1 r (by rw [h.ia.2.2.1]; exact hrr)
      rw [h.ia.2.1] at this
      exact this
    clear hQ hS hV h1 hb hv h2
    obtain ⟨ke, hke⟩ : ∃ ke, ke = A.nl r := ⟨_, rfl⟩
    rw [← hke] at LO HL
    clear hke
    have h3 : ¬ (r : Int) < 0 := by omega
    have h4 : ¬ (rows : Int) ≤ (r : Int) := by omega
    go_wp2_with fail
    refine LO.mono ?_
    rintro e w1 ⟨rfl, hw⟩
    obtain rfl := hw.symm
    clear LO hw
    go_wp2_with fail
    refine RO.mono ?_
    rintro e w1 ⟨g1, d1, g2, d2, rfl, hcc, hR1, hR2, hgg, hB1⟩
    have c2 := HV1.out w1 hB1
    have S1 := HS.out.old hB1
    have LP := HL.out w1 S1
    have RP := HR.out w1 S1
    have E := err_none w1
    have HT : Hid (∀ w2, Below w1.heap.size w1 w2 → RdF w2 (.slice (some ⟨g1, 0, none⟩) n d1) n (fun i => st (A.part r i)) ∧ RdF w2 (.slice (some ⟨g2, 0, none⟩) n d2) n (fun i => .bool (A.lo r i))) := fun w2 hB => ⟨(hR1.old hB).rd hcc.1 hcc.2.1, (hR2.old hB).rd hcc.2.2.1 hcc.2.2.2⟩
    have HS1 : Hid (PS w x y n rows size A A N w1) := S1
    clear RO hB1 HS S1 HV1 hR1 hR2 hgg hcc
    go_wp2_with fail
    refine LP.mono ?_
    rintro e w2 ⟨rfl, hw⟩
    obtain rfl := hw.symm
    clear LP hw
    go_wp2_with fail
    refine E.mono ?_
    rintro e w2 ⟨rfl, hw⟩
    obtain rfl := hw.symm
    clear E hw
    go_wp2_with fail
    refine RP.mono ?_
    rintro e w2 ⟨g3, g4, rfl, hR3, hR4, hgg, hB2⟩
    obtain ⟨t1, t2⟩ := HT.out w2 hB2
    have HS2 : Hid (PS w x y n rows size A A N w2) := HS1.out.old hB2
    have E := err_none w2
    have T := texts_any (.slice (some ⟨g3, 0, none⟩) n n) (.slice (some ⟨g1, 0, none⟩) n d1) n n (A.part r) (A.part r) w2 (hR3.rd (Nat.le_refl _) (by omega)) t1
    rw [sameL_iff.2 ⟨rfl, fun _ _ => rfl⟩] at T
    have HT2 : Hid (∀ w3, Below w2.heap.size w2 w3 → Calls Tryz.prog 27 #[.slice (some ⟨g4, 0, none⟩) n n, .slice (some ⟨g2, 0, none⟩) n d2] w3 fun e w' => e = .returned (.bool true) ∧ Below w3.heap.size w3 w') := fun w3 hB => bools_same _ _ n (A.lo r) w3 ((hR4.old hB).rd (Nat.le_refl _) (by omega)) (t2.old hB)
    clear RP hB2 HS1 HT hR3 hR4 t1 t2 hgg c2
    go_wp2_with fail
    refine E.mono ?_
    rintro e w3 ⟨rfl, hw⟩
    obtain rfl := hw.symm
    clear E hw
    go_wp2_with fail
    refine T.mono ?_
    rintro e w3 ⟨rfl, hB3⟩
    have HS3 : Hid (PS w x y n rows size A A N w3) := HS2.out.old hB3
    have T2 := HT2.out w3 hB3
    clear T hB3 HS2 HT2
    go_wp2_with fail
    refine T2.mono ?_
    rintro e w4 ⟨rfl, hB4⟩
    have HS4 : Hid (PS w x y n rows size A A N w4) := HS3.out.old hB4
    clear T2 hB4 HS3
    go_wp2
    exact HQ.out _ _ (by unfold WK; exact ⟨_, _, _, _, _, _, _, _, _, _, _, _, _, _, _, _, _, _, _, _, _, _, _, _, _, _, _, _, _, _, _, _, _, _, _, _, _, _, _, _, _, _, _, _, _, _, _, _, _, _, _, _, _, _, _, _, _, _, _, _, _, _, _, _, _, _, _, _, _, _, _, _, _, _, _, _, _, _, _, _, _, _, _, _, _, _, _, _, _, _, _, _, _, _, _, _, _, _, _, _, _, _, _, _, _, _, _, _, _, _, _, _, _, _, _, _, _, _, _, _, _, _, _, _, _, _, _, _, _, _, _, _, _, _, _, _, _, _, _, _, _, _, _, _, _, _, _, _, _, _, _, _, _, _, _, _, _, _, _, _, _, _, _, _, _, _, _, _, _, _, _, _, _, _, _, _, _, _, _, _, _, _, _, _, _, _, _, _, _, _, _, _, _, _, _, _, _, _, _, _, _, _, _, _, _, _, _, _, _, _, _, _, _, _, _, _, _, _, _, _, _, _, _, _, _, _, _, _, _, _, _, _, _, _, _, _, _, _, _, _, _, _, _, _, _, _, _, _, _, _, _, _, _, _, _, _, _, _, _, _, _, _, _, _, _, _, _, _, _, _, _, _, _, _, _, _, _, _, _, _, _, _, ⟨HS4.out, hN⟩, rfl⟩)

set_option linter.unusedVariables false in
set_option maxRecDepth 1000000 in
set_option maxHeartbeats 8000000 in
theorem p_tail1 (n rows size n3 c3 : Nat) (a3 : Option Addr) (x : PAd) (y : RAd) (w : World) (k M q N : Nat) (A : Arr) (v : Nat → Int) (u4 u5 u6 u7 u8 u9 u11 u16 u17 u18 u19 u20 u21 u22 u23 u24 u25 u26 u27 u28 u29 u30 u31 u32 u33 u34 u35 u36 u37 u38 u39 u40 u41 u42 u43 u44 u45 u46 u47 u48 u49 u50 u51 u52 u53 u54 u55 u56 u57 u58 u59 u60 u61 u62 u63 u64 u65 u66 u67 u68 u69 u70 u71 u72 u73 u74 u75 u76 u77 u78 u79 u80 u81 u82 u83 u84 u85 u86 u87 u88 u89 u90 u91 u92 u93 u94 u95 u96 u97 u98 u99 u100 u101 u102 u103 u104 u105 u106 u107 u108 u109 u110 u111 u112 u113 u114 u115 u116 u117 u118 u119 u120 u121 u122 u123 u124 u125 u126 u127 u128 u129 u130 u131 u132 u133 u134 u135 u136 u137 u138 u139 u140 u141 u142 u143 u144 u145 u146 u147 u148 u149 u150 u151 u152 u153 u154 u155 u156 u157 u158 u159 u160 u161 u162 u163 u164 u165 u166 u167 u168 u169 u170 u171 u172 u173 u174 u175 u176 u177 u178 u179 u180 u181 u182 u183 u184 u185 u186 u187 u188 u189 u190 u191 u192 u193 u194 u195 u196 u197 u198 u199 u200 u201 u202 u203 u204 u205 u206 u207 u208 u209 u210 u211 u212 u213 u214 u215 u216 u217 u218 u219 u220 u221 u222 u223 u224 u225 u226 u227 u228 u229 u230 u231 u232 u233 u234 u235 u236 u237 u238 u239 u240 u241 u242 u243 u244 u245 u246 u247 u248 u249 u250 u251 u252 u253 u254 u255 u256 u257 u258 u259 u260 u261 u262 u263 u264 u265 u266 u267 u268 u269 u270 u271 u272 u273 u274 u275 u276 u277 u278 u279 u280 u281 u282 u283 u284 u285 u286 : Value) (wc : World) (Q : Exit → Act → World → Prop)
    (hn : 3 ≤ n ∧ n ≤ 10) (hr : 1 ≤ rows ∧ rows ≤ 20) (hz : 1 ≤ size ∧ size ≤ 16) (HG : Hid (Handle w)) (hM : M ≤ 1000) (hb : ∀ j, v j ≤ 9223372036854775807) (hS : PS w x y n rows size A A N wc) (hV : VP w x y n q wc v) (hN : N ≤ M)
    (hQ : ∀ a w1, WK n rows size n3 c3 a3 x y w k M a w1 → Q Exit.normal a w1) :
    Code.wp Tryz.prog (cut [1, 1, 1, 1, 1, 1, 1, 0, 1, 2, 5, 1, 0, 2, 1, 1, 1, 1] (Tryz.f3.body.getD .skip)) Q ⟨#[.int .i64 n, .int .i64 rows, .int .i64 size, .slice a3 n3 c3, u4, u5, u6, u7, u8, u9, .pointer (some ⟨x.p, 0, none⟩), u11, .bool true, .pointer (some ⟨y.p, 0, none⟩), .int .i64 ((k : Nat) : Int), .pointer (some ⟨q, 0, none⟩), u16, u17, u18, u19, u20, u21, u22, u23, u24, u25, u26, u27, u28, u29, u30, u31, u32, u33, u34, u35, u36, u37, u38, u39, u40, u41, u42, u43, u44, u45, u46, u47, u48, u49, u50, u51, u52, u53, u54, u55, u56, u57, u58, u59, u60, u61, u62, u63, u64, u65, u66, u67, u68, u69, u70, u71, u72, u73, u74, u75, u76, u77, u78, u79, u80, u81, u82, u83, u84, u85, u86, u87, u88, u89, u90, u91, u92, u93, u94, u95, u96, u97, u98, u99, u100, u101, u102, u103, u104, u105, u106, u107, u108, u109, u110, u111, u112, u113, u114, u115, u116, u117, u118, u119, u120, u121, u122, u123, u124, u125, u126, u127, u128, u129, u130, u131, u132, u133, u134, u135, u136, u137, u138, u139, u140, u141, u142, u143, u144, u145, u146, u147, u148, u149, u150, u151, u152, u153, u154, u155, u156, u157, u158, u159, u160, u161, u162, u163, u164, u165, u166, u167, u168, u169, u170, u171, u172, u173, u174, u175, u176, u177, u178, u179, u180, u181, u182, u183, u184, u185, u186, u187, u188, u189, u190, u191, u192, u193, u194, u195, u196, u197, u198, u199, u200, u201, u202, u203, u204, u205, u206, u207, u208, u209, u210, u211, u212, u213, u214, u215, u216, u217, u218, u219, u220, u221, u222, u223, u224, u225, u226, u227, u228, u229, u230, u231, u232, u233, u234, u235, u236, u237, u238, u239, u240, u241, u242, u243, u244, u245, u246, u247, u248, u249, u250, u251, u252, u253, u254, u255, u256, u257, u258, u259, u260, u261, u262, u263, u264, u265, u266, u267, u268, u269, u270, u271, u272, u273, u274, u275, u276, u277, u278, u279, u280, u281, u282, u283, u284, u285, u286], []⟩ wc := by
  conv => arg 2; whnf
  have c1 := hV.at 1 (by omega)
  have HQ : Hid _ := hQ
  have HB : Hid (∀ j, v j ≤ 9223372036854775807) := hb
  have HS : Hid (PS w x y n rows size A A N wc) := hS
  have HV : Hid (VP w x y n q wc v) := hV
  have R := ra_read hS.ra hS.ic.1 (v 1)
  have HP : Hid (∀ w1, PS w x y n rows size A A N w1 → Calls Tryz.prog 21 #[.pointer (some ⟨x.p, 0, none⟩), .int .i64 (v 1)] w1 fun e w' => e = .returned (.tuple #[st (A.readT (v 1)), errV (A.readE (v 1))]) ∧ Below w1.heap.size w1 w') := fun w1 h => pa_read h.al.pa h.ia.1 (v 1) (hb 1)
  have HE : Hid (∀ w1, PS w x y n rows size A A N w1 → Calls Tryz.prog 7 #[errV (A.readE (v 1)), .int .i64 ((A.readE (v 1) : Nat) : Int)] w1 fun e w' => e = .returned (.bool true) ∧ Below w1.heap.size w1 w') := fun w1 h => err_v _ w1 (HG.out.old h.al.low)
  have HV1 : Hid (∀ w1, Below wc.heap.size wc w1 → w1.cell? ⟨q, 1, none⟩ = some (.int .i64 (v 1))) := fun w1 hB => (hV.old hB).at 1 (by omega)
  clear hQ hS hV hb
  unfold st at R HP
  generalize sb (A.readT (v 1)) = s at R HP
  generalize A.readE (v 1) = ke at R HP HE
  generalize hb1 : v 1 = b at R HP HV1 c1
  clear hb1
  refine wp_seq_k fun K hK => ?_
  have HK : Hid _ := hK
  clear hK
  go_wp2_with fail
  refine R.mono ?_
  rintro e w1 ⟨rfl, hB1⟩
  have c1 := HV1.out w1 hB1
  have S1 := HS.out.old hB1
  have R := HP.out w1 S1
  have HS1 : Hid (PS w x y n rows size A A N w1) := S1
  have HVV1 : Hid (VP w x y n q w1 v) := HV.out.old hB1
  clear hB1 HS S1 HV1 HP HV
  go_wp2
  refine HK.out _ _ ?_
  clear HK K
  refine wp_seq_k fun K hK => ?_
  have HK : Hid _ := hK
  clear hK
  go_wp2_with fail
  refine R.mono ?_
  rintro e w2 ⟨rfl, hB2⟩
  have S2 := HS1.out.old hB2
  have E := HE.out w2 S2
  have HS2 : Hid (PS w x y n rows size A A N w2) := S2
  have HVV2 : Hid (VP w x y n q w2 v) := HVV1.out.old hB2
  clear R hB2 HS1 S2 HVV1 HE c1
  generalize errV ke = ev at *
  go_wp2
  refine HK.out _ _ ?_
  clear HK K
  refine wp_seq_k fun K hK => ?_
  have HK : Hid _ := hK
  clear hK
  go_wp2_with fail
  refine E.mono ?_
  rintro e w3 ⟨rfl, hB3⟩
  have HS3 : Hid (PS w x y n rows size A A N w3) := HS2.out.old hB3
  have HVV3 : Hid (VP w x y n q w3 v) := HVV2.out.old hB3
  clear E hB3 HS2 HVV2
  go_wp2
  refine HK.out _ _ ?_
  clear HK K
  exact p_tail2 n rows size n3 c3 a3 x y w k M q N A v _ _ _ _ _ _ _ _ _ _ _ _ _ _ _ _ _ _ _ _ _ _ _ _ _ _ _ _ _ _ _ _ _ _ _ _ _ _ _ _ _ _ _ _ _ _ _ _ _ _ _ _ _ _ _ _ _ _ _ _ _ _ _ _ _ _ _ _ _ _ _ _ _ _ _ _ _ _ _ _ _ _ _ _ _ _ _ _ _ _ _ _ _ _ _ _ _ _ _ _ _ _ _ _ _ _ _ _ _ _ _ _ _ _ _ _ _ _ _ _ _ _ _ _ _ _ _ _ _ _ _ _ _ _ _ _ _ _ _ _ _ _ _ _ _ _ _ _ _ _ _ _ _ _ _ _ _ _ _ _ _ _ _ _ _ _ _ _ _ _ _ _ _ _ _ _ _ _ _ _ _ _ _ _ _ _ _ _ _ _ _ _ _ _ _ _ _ _ _ _ _ _ _ _ _ _ _ _ _ _ _ _ _ _ _ _ _ _ _ _ _ _ _ _ _ _ _ _ _ _ _ _ _ _ _ _ _ _ _ _ _ _ _ _ _ _ _ _ _ _ _ _ _ _ _ _ _ _ _ _ _ _ _ _ _ _ _ _ _ _ _ _ _ _ _ _ _ _ _ hn hr hz HG hM HB.out HS3.out HVV3.out hN HQ.out
end Go.Proofs.YtilfjahbdlepjaaGreatDoor
