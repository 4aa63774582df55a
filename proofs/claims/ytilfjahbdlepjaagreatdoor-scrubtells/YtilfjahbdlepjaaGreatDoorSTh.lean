/- ScrubTells, a piece: walks over the program. -/
import Derived.Test.YtilfjahbdlepjaaGreatDoorSTa
import Derived.Deep.Cut
import Derived.Deep.CutRange
import Derived.BigCall
import Derived.BigGuard
namespace Go.Proofs.YtilfjahbdlepjaaGreatDoor
open Go.RowKit El Pol Mx Lay
theorem row_bad1 {A : Arr} {m r : Int} (h : m < 3 ∨ 10 < m ∨ A.noR r) : A.rowE m r = 1 ∧ A.rowD m r = 0 ∧ A.row' m r = A := by
  have e : A.wholeE m r = 1 := by
    unfold Arr.wholeE
    rw [if_pos]
    rcases h with h | h | h
    · exact .inl (by unfold lbad; rw [if_pos (.inl h)]; omega)
    · exact .inl (by unfold lbad; rw [if_pos (.inr h)]; omega)
    · exact .inr h
  unfold Arr.rowE Arr.rowD Arr.row'
  rw [e, if_neg (by omega), if_neg (by omega), if_neg (by omega)]
  exact ⟨rfl, rfl, rfl⟩
theorem row_bad3 {A : Arr} {m r : Int} (h1 : 3 ≤ m) (h2 : m ≤ 10) (h3 : ¬ A.noR r) (h4 : m ≠ A.n) : A.rowE m r = 3 ∧ A.rowD m r = 0 ∧ A.row' m r = A := by
  have e : A.wholeE m r = 3 := by
    unfold Arr.wholeE
    rw [if_neg (by
      rintro (q | q)
      · exact q (lbad_of h1 h2)
      · exact h3 q), if_neg h4]
  unfold Arr.rowE Arr.rowD Arr.row'
  rw [e, if_neg (by omega), if_neg (by omega), if_neg (by omega)]
  exact ⟨rfl, rfl, rfl⟩
theorem QS.dscrub1 {w wc : World} {x1 x2 : PAd} {y1 y2 : RAd} {n rows size : Nat} {A1 A2 C1 C2 : Arr} {N1 N2 : Nat} (h : QS w x1 x2 y1 y2 n rows size A1 A2 C1 C2 N1 N2 wc) (s : Nat) (hs : s < rows) :
    Calls Tryz.prog 28 #[.pointer (some ⟨y1.p, 0, none⟩), .int .i64 s] wc fun e w1 => e = .returned (.tuple #[.int .i64 (C1.scrubD s), .int .i64 (C1.scrubE s)]) ∧ QS w x1 x2 y1 y2 n rows size A1 A2 (C1.scrub s) C2 N1 N2 w1 :=
  (ra_scrub h.r1 h.j1.1 s (by rw [h.j1.2.2.1]; exact hs)).mono fun _ _ ⟨he, hp, hb⟩ => ⟨he, (h.doc1 hp hb (is_scrub h.j1 s)).1⟩
theorem QS.dscrub2 {w wc : World} {x1 x2 : PAd} {y1 y2 : RAd} {n rows size : Nat} {A1 A2 C1 C2 : Arr} {N1 N2 : Nat} (h : QS w x1 x2 y1 y2 n rows size A1 A2 C1 C2 N1 N2 wc) (s : Nat) (hs : s < rows) :
    Calls Tryz.prog 28 #[.pointer (some ⟨y2.p, 0, none⟩), .int .i64 s] wc fun e w1 => e = .returned (.tuple #[.int .i64 (C2.scrubD s), .int .i64 (C2.scrubE s)]) ∧ QS w x1 x2 y1 y2 n rows size A1 A2 C1 (C2.scrub s) N1 N2 w1 ∧ But (QF x1 x2 y1 y2 n) wc w1 :=
  (ra_scrub h.r2 h.j2.1 s (by rw [h.j2.2.2.1]; exact hs)).mono fun _ _ ⟨he, hp, hb⟩ => ⟨he, h.doc2 hp hb (is_scrub h.j2 s)⟩

set_option linter.unusedVariables false in
set_option maxRecDepth 1000000 in
set_option maxHeartbeats 8000000 in
theorem t36 (n rows size n3 c3 : Nat) (a3 : Option Addr) (mm rr : Int) (x1 x2 : PAd) (y1 y2 : RAd) (w : World) (N : Nat) (A : Arr) (u6 u7 u8 u9 u10 u11 u12 u14 u16 u19 u20 u21 u22 u25 u26 u27 u28 u29 u30 u31 u32 u33 u34 u35 u36 u37 u38 u39 u40 u41 u42 u43 u44 u45 u46 u47 u48 u49 u50 u51 u52 u53 u54 u55 u56 u57 u58 u59 u60 u61 u62 u63 u64 u65 u66 u67 u68 u69 u70 u71 u72 u73 u74 u75 u76 u77 u78 u79 u80 u81 u82 u83 u84 u85 u86 u87 u88 u89 u90 u91 u92 u93 u94 u95 u96 u97 u98 u99 u100 u101 u102 u103 u104 u105 u106 u107 u108 u109 u110 u111 u112 u113 u114 u115 u116 u117 u118 u119 u120 u121 u122 u123 u124 u125 u126 u127 u128 u129 u130 u131 u132 u133 u134 u135 u136 u137 u138 u139 u140 u141 u142 u143 u144 u145 u146 u147 u148 u149 u150 u151 u152 u153 u154 u155 u156 u157 u158 u159 u160 u161 u162 u163 u164 u165 u166 u167 u168 u169 u170 u171 u172 u173 u174 u175 u176 u177 u178 u179 u180 u181 u182 u183 u184 u185 u186 u187 u188 u189 u190 u191 u192 u193 u194 u195 u196 u197 u198 u199 u200 u201 u202 u203 u204 u205 u206 u207 u208 u209 u210 u211 u212 u213 u214 u215 u216 u217 u218 u219 u220 u221 u222 u223 u224 u225 u226 u227 u228 u229 u230 u231 u232 u233 u234 u235 u236 u237 u238 u239 u240 u241 u242 u243 u244 u245 u246 u247 u248 u249 u250 u251 u252 u253 u254 u255 u256 u257 u258 u259 u260 u261 u262 u263 u264 u265 u266 u267 u268 u269 u270 u271 u272 u273 u274 u275 u276 u277 u278 u279 u280 u281 u282 u283 u284 u285 u286 u287 u288 u289 u290 u291 u292 u293 u294 u295 u296 u297 u298 u299 u300 u301 u302 u303 u304 u305 u306 u307 u308 u309 u310 u311 u312 u313 u314 u315 u316 u317 u318 u319 u320 u321 u322 u323 u324 u325 u326 u327 u328 u329 u330 u331 u332 u333 u334 u335 u336 u337 : Value) (wc : World) (Q : Exit → Act → World → Prop)
    (hS : QS w x1 x2 y1 y2 n rows size (A) (A) (A) (A) (N) (N) wc) (hn : 3 ≤ n ∧ n ≤ 10) (hr : 1 ≤ rows ∧ rows ≤ 20) (hz : 1 ≤ size ∧ size ≤ 16)
    (hQ : ∀ (x207 x208 x209 x210 x211 x212 x213 x214 x215 x216 x217 x218 x219 x220 x221 x222 x223 x224 x225 x226 x227 x228 x229 x230 x231 x232 : Value)  (w1 : World), QS w x1 x2 y1 y2 n rows size (A) (A) (A.row' mm rr) (A) (N) (N) w1 → Q .normal ⟨#[.int .i64 n, .int .i64 rows, .int .i64 size, .slice a3 n3 c3, .int .i64 mm, .int .i64 rr, u6, u7, u8, u9, u10, u11, u12, .pointer (some ⟨x1.p, 0, none⟩), u14, .pointer (some ⟨x2.p, 0, none⟩), u16, .pointer (some ⟨y1.p, 0, none⟩), .pointer (some ⟨y2.p, 0, none⟩), u19, u20, u21, u22, .int .i64 ((A.rowE mm rr : Nat) : Int), .int .i64 (A.rowD mm rr), u25, u26, u27, u28, u29, u30, u31, u32, u33, u34, u35, u36, u37, u38, u39, u40, u41, u42, u43, u44, u45, u46, u47, u48, u49, u50, u51, u52, u53, u54, u55, u56, u57, u58, u59, u60, u61, u62, u63, u64, u65, u66, u67, u68, u69, u70, u71, u72, u73, u74, u75, u76, u77, u78, u79, u80, u81, u82, u83, u84, u85, u86, u87, u88, u89, u90, u91, u92, u93, u94, u95, u96, u97, u98, u99, u100, u101, u102, u103, u104, u105, u106, u107, u108, u109, u110, u111, u112, u113, u114, u115, u116, u117, u118, u119, u120, u121, u122, u123, u124, u125, u126, u127, u128, u129, u130, u131, u132, u133, u134, u135, u136, u137, u138, u139, u140, u141, u142, u143, u144, u145, u146, u147, u148, u149, u150, u151, u152, u153, u154, u155, u156, u157, u158, u159, u160, u161, u162, u163, u164, u165, u166, u167, u168, u169, u170, u171, u172, u173, u174, u175, u176, u177, u178, u179, u180, u181, u182, u183, u184, u185, u186, u187, u188, u189, u190, u191, u192, u193, u194, u195, u196, u197, u198, u199, u200, u201, u202, u203, u204, u205, u206, x207, x208, x209, x210, x211, x212, x213, x214, x215, x216, x217, x218, x219, x220, x221, x222, x223, x224, x225, x226, x227, x228, x229, x230, x231, x232, u233, u234, u235, u236, u237, u238, u239, u240, u241, u242, u243, u244, u245, u246, u247, u248, u249, u250, u251, u252, u253, u254, u255, u256, u257, u258, u259, u260, u261, u262, u263, u264, u265, u266, u267, u268, u269, u270, u271, u272, u273, u274, u275, u276, u277, u278, u279, u280, u281, u282, u283, u284, u285, u286, u287, u288, u289, u290, u291, u292, u293, u294, u295, u296, u297, u298, u299, u300, u301, u302, u303, u304, u305, u306, u307, u308, u309, u310, u311, u312, u313, u314, u315, u316, u317, u318, u319, u320, u321, u322, u323, u324, u325, u326, u327, u328, u329, u330, u331, u332, u333, u334, u335, u336, u337], []⟩ w1) :
    Code.wp Tryz.prog (cut [1, 1, 1, 1, 1, 1, 1, 1, 1, 1, 0] (Tryz.f4.body.getD .skip)) Q ⟨#[.int .i64 n, .int .i64 rows, .int .i64 size, .slice a3 n3 c3, .int .i64 mm, .int .i64 rr, u6, u7, u8, u9, u10, u11, u12, .pointer (some ⟨x1.p, 0, none⟩), u14, .pointer (some ⟨x2.p, 0, none⟩), u16, .pointer (some ⟨y1.p, 0, none⟩), .pointer (some ⟨y2.p, 0, none⟩), u19, u20, u21, u22, .int .i64 0, .int .i64 0, u25, u26, u27, u28, u29, u30, u31, u32, u33, u34, u35, u36, u37, u38, u39, u40, u41, u42, u43, u44, u45, u46, u47, u48, u49, u50, u51, u52, u53, u54, u55, u56, u57, u58, u59, u60, u61, u62, u63, u64, u65, u66, u67, u68, u69, u70, u71, u72, u73, u74, u75, u76, u77, u78, u79, u80, u81, u82, u83, u84, u85, u86, u87, u88, u89, u90, u91, u92, u93, u94, u95, u96, u97, u98, u99, u100, u101, u102, u103, u104, u105, u106, u107, u108, u109, u110, u111, u112, u113, u114, u115, u116, u117, u118, u119, u120, u121, u122, u123, u124, u125, u126, u127, u128, u129, u130, u131, u132, u133, u134, u135, u136, u137, u138, u139, u140, u141, u142, u143, u144, u145, u146, u147, u148, u149, u150, u151, u152, u153, u154, u155, u156, u157, u158, u159, u160, u161, u162, u163, u164, u165, u166, u167, u168, u169, u170, u171, u172, u173, u174, u175, u176, u177, u178, u179, u180, u181, u182, u183, u184, u185, u186, u187, u188, u189, u190, u191, u192, u193, u194, u195, u196, u197, u198, u199, u200, u201, u202, u203, u204, u205, u206, u207, u208, u209, u210, u211, u212, u213, u214, u215, u216, u217, u218, u219, u220, u221, u222, u223, u224, u225, u226, u227, u228, u229, u230, u231, u232, u233, u234, u235, u236, u237, u238, u239, u240, u241, u242, u243, u244, u245, u246, u247, u248, u249, u250, u251, u252, u253, u254, u255, u256, u257, u258, u259, u260, u261, u262, u263, u264, u265, u266, u267, u268, u269, u270, u271, u272, u273, u274, u275, u276, u277, u278, u279, u280, u281, u282, u283, u284, u285, u286, u287, u288, u289, u290, u291, u292, u293, u294, u295, u296, u297, u298, u299, u300, u301, u302, u303, u304, u305, u306, u307, u308, u309, u310, u311, u312, u313, u314, u315, u316, u317, u318, u319, u320, u321, u322, u323, u324, u325, u326, u327, u328, u329, u330, u331, u332, u333, u334, u335, u336, u337], []⟩ wc := by
  conv => arg 2; whnf
  have hi := hS.i1
  have HS : Hid (QS w x1 x2 y1 y2 n rows size (A) (A) (A) (A) (N) (N) wc) := hS
  have D := fun s hs => hS.dscrub1 s hs
  clear hS
  have hno : A.noR rr ↔ (rr < 0 ∨ (rows : Int) ≤ rr) := by unfold Arr.noR; rw [hi.2.2.1]
  by_cases h1 : mm < 3
  · obtain ⟨e1, e2, e3⟩ := row_bad1 (A := A) (m := mm) (r := rr) (.inl h1)
    rw [e1, e2, e3] at hQ
    have HQ : Hid _ := hQ
    clear hQ e1 e2 e3 D hno hi
    go_wp2
    exact HQ.out _ _ _ _ _ _ _ _ _ _ _ _ _ _ _ _ _ _ _ _ _ _ _ _ _ _ _ HS.out
  by_cases h2 : 10 < mm
  · obtain ⟨e1, e2, e3⟩ := row_bad1 (A := A) (m := mm) (r := rr) (.inr (.inl h2))
    rw [e1, e2, e3] at hQ
    have HQ : Hid _ := hQ
    clear hQ e1 e2 e3 D hno hi
    go_wp2
    exact HQ.out _ _ _ _ _ _ _ _ _ _ _ _ _ _ _ _ _ _ _ _ _ _ _ _ _ _ _ HS.out
  by_cases h3 : rr < 0
  · obtain ⟨e1, e2, e3⟩ := row_bad1 (A := A) (m := mm) (r := rr) (.inr (.inr (hno.2 (.inl h3))))
    rw [e1, e2, e3] at hQ
    have HQ : Hid _ := hQ
    clear hQ e1 e2 e3 D hno hi
    go_wp2
    exact HQ.out _ _ _ _ _ _ _ _ _ _ _ _ _ _ _ _ _ _ _ _ _ _ _ _ _ _ _ HS.out
  by_cases h4 : (rows : Int) ≤ rr
  · obtain ⟨e1, e2, e3⟩ := row_bad1 (A := A) (m := mm) (r := rr) (.inr (.inr (hno.2 (.inr h4))))
    rw [e1, e2, e3] at hQ
    have HQ : Hid _ := hQ
    clear hQ e1 e2 e3 D hno hi
    go_wp2
    exact HQ.out _ _ _ _ _ _ _ _ _ _ _ _ _ _ _ _ _ _ _ _ _ _ _ _ _ _ _ HS.out
  by_cases h5 : ¬ mm = (n : Int)
  · obtain ⟨e1, e2, e3⟩ := row_bad3 (A := A) (m := mm) (r := rr) (by omega) (by omega) (fun q => by have := hno.1 q; omega) (by rw [hi.2.1]; exact h5)
    have h5' : (mm != (n : Int)) = true := by rw [bne_iff_ne]; exact h5
    rw [e1, e2, e3] at hQ
    have HQ : Hid _ := hQ
    clear hQ e1 e2 e3 D hno hi
    go_wp2
    exact HQ.out _ _ _ _ _ _ _ _ _ _ _ _ _ _ _ _ _ _ _ _ _ _ _ _ _ _ _ HS.out
  have h5 := Decidable.not_not.1 h5
  subst h5
  obtain ⟨s, rfl⟩ : ∃ s : Nat, rr = s := ⟨rr.toNat, by omega⟩
  have hs : s < rows := by omega
  obtain ⟨e2, e1, e3⟩ := Arr.row_in hi.1 (s := s) (by rw [hi.2.2.1]; exact hs)
  rw [hi.2.1] at e1 e2 e3
  rw [e1, e2, e3] at hQ
  have C := D s hs
  have HW := Arr.scrub_ways hi.1 s
  have HQ : Hid _ := hQ
  clear hQ HS D hno e1 e2 e3
  generalize A.scrub s = A2 at *
  have hz : A.scrubE s = 0 ∨ (A.scrubE s ≠ 0 ∧ A.scrubD s = 0) := by
    rcases HW with ⟨_, q1, q2, _⟩ | ⟨_, _, q1, q2, _⟩ | ⟨_, _, q1, _⟩ | ⟨_, _, q1, _⟩
    · exact .inr ⟨by omega, q2⟩
    · exact .inr ⟨by omega, q2⟩
    · exact .inl q1
    · exact .inl q1
  clear HW hi
  generalize A.scrubE s = ke at *
  generalize A.scrubD s = kd at *
  rcases hz with rfl | ⟨hk, rfl⟩
  · go_wp2_with fail
    refine C.mono ?_
    rintro e w1 ⟨rfl, hS1⟩
    have HS1 : Hid (QS w x1 x2 y1 y2 n rows size (A) (A) (A2) (A) (N) (N) w1) := hS1
    clear C hS1
    go_wp2
    exact HQ.out _ _ _ _ _ _ _ _ _ _ _ _ _ _ _ _ _ _ _ _ _ _ _ _ _ _ _ HS1.out
  · have hk' : ¬ ((ke : Nat) : Int) = 0 := by omega
    have hkb : (((ke : Nat) : Int) != 0) = true := by rw [bne_iff_ne]; exact hk'
    clear hk
    go_wp2_with fail
    refine C.mono ?_
    rintro e w1 ⟨rfl, hS1⟩
    have HS1 : Hid (QS w x1 x2 y1 y2 n rows size (A) (A) (A2) (A) (N) (N) w1) := hS1
    clear C hS1
    go_wp2
    exact HQ.out _ _ _ _ _ _ _ _ _ _ _ _ _ _ _ _ _ _ _ _ _ _ _ _ _ _ _ HS1.out
end Go.Proofs.YtilfjahbdlepjaaGreatDoor
