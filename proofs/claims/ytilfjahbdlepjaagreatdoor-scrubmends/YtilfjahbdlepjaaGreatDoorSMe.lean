/- ScrubMends, a piece: walks over the program. -/
import Derived.Test.YtilfjahbdlepjaaGreatDoorSMa
import Derived.Deep.Cut
import Derived.Deep.CutRange
import Derived.BigCall
import Derived.BigGuard
namespace Go.Proofs.YtilfjahbdlepjaaGreatDoor
open Go.RowKit El Pol Mx Lay
set_option linter.unusedVariables false in
set_option maxRecDepth 1000000 in
set_option maxHeartbeats 4000000 in
theorem sm5 (n rows n2 c2 n3 c3 m : Nat) (a2 a3 : Option Addr) (s4 : ByteArray) (x : PAd) (w : World) (g B k d N nv cv : Nat) (av : Option Addr) (c : Nat → List El) (A : Arr) (D : Nat → Nat) (T : Nat → List El) (t4 : List El) (u5 u6 u7 u8 u9 u10 u12 u13 u14 u15 u16 u17 u21 u22 u23 u24 u25 u27 u28 u29 u30 u31 u32 u33 u34 u35 u36 u37 u38 u39 u40 u41 u42 u43 u44 u45 u46 u47 u48 u49 u50 u51 u52 u53 u54 u55 u56 u57 u58 u59 u60 u61 u62 u63 u64 u65 u66 u67 u68 u69 u70 u71 u72 u73 u74 u75 u76 u77 u78 u79 u80 u81 u82 u83 u84 u85 u86 u87 u88 u89 u90 u91 u92 u93 u94 u95 u96 u97 u98 u99 u100 u101 u102 u103 u104 u105 u106 u107 u108 u109 u110 u111 u112 u113 u114 u115 u116 u117 u118 u119 u120 u121 u122 u123 u124 u125 u126 u127 u128 u129 u130 u131 u132 u133 u134 u135 u136 u137 u138 u139 u140 u141 u142 u143 u144 u145 u146 u147 u148 u149 u150 u151 u152 u153 u154 u155 u156 u157 u158 u159 u160 u161 u162 u163 u164 u165 u166 u167 u168 u169 u170 u171 u172 u173 u174 u175 u176 u177 u178 u179 u180 u181 u182 u183 u184 u185 u186 u187 u188 u189 u190 u191 u192 u193 u194 u195 u196 u197 u198 u199 u200 u201 u202 u203 u204 u205 u206 u207 u208 u209 u210 u211 u212 u213 u214 u215 u216 u217 u218 u219 u220 u221 u222 u223 u224 u225 u226 u227 u228 u229 u230 u231 u232 u233 u234 u235 u236 u237 u238 u239 u240 u241 u242 u243 u244 u245 u246 u247 u248 u249 u250 u251 u252 u253 u254 u255 u256 u257 u258 u259 u260 u261 u262 u263 u264 u265 u266 u267 : Value) (wc : World) (Q : Exit → Act → World → Prop)
    (hS : MH w x n rows g m B c (A) (D) (T) (k) (N) (.slice av nv cv) wc) (hN : N < 900000) (hk : k < rows) (hk20 : k ≤ 20) (hd : d < n) (ht4 : t4.length = 2) (hs4 : s4 = sb t4) (hnv : nv = (wrongs A c D T k).length)
    (hQ : ∀ (x201 x202 x203 x204 x205 x206 x207 x208 x209 x210 x211 x212 x213 x214 : Value) (A1 : Arr) (D1 : Nat → Nat) (T1 : Nat → List El) (v : Value) (w1 : World), MH w x n rows g m B c (A1) (D1) (T1) (k + 1) (N + 1) (v) w1 → Q .normal ⟨#[.int .i64 n, .int .i64 rows, .slice a2 n2 c2, .slice a3 n3 c3, .string s4, u5, u6, u7, u8, u9, u10, .pointer (some ⟨x.p, 0, none⟩), u12, u13, u14, u15, u16, u17, v, .int .i64 (k : Int), .int .i64 (d : Int), u21, u22, u23, u24, u25, .bool (decide (rt A c k d = t4)), u27, u28, u29, u30, u31, u32, u33, u34, u35, u36, u37, u38, u39, u40, u41, u42, u43, u44, u45, u46, u47, u48, u49, u50, u51, u52, u53, u54, u55, u56, u57, u58, u59, u60, u61, u62, u63, u64, u65, u66, u67, u68, u69, u70, u71, u72, u73, u74, u75, u76, u77, u78, u79, u80, u81, u82, u83, u84, u85, u86, u87, u88, u89, u90, u91, u92, u93, u94, u95, u96, u97, u98, u99, u100, u101, u102, u103, u104, u105, u106, u107, u108, u109, u110, u111, u112, u113, u114, u115, u116, u117, u118, u119, u120, u121, u122, u123, u124, u125, u126, u127, u128, u129, u130, u131, u132, u133, u134, u135, u136, u137, u138, u139, u140, u141, u142, u143, u144, u145, u146, u147, u148, u149, u150, u151, u152, u153, u154, u155, u156, u157, u158, u159, u160, u161, u162, u163, u164, u165, u166, u167, u168, u169, u170, u171, u172, u173, u174, u175, u176, u177, u178, u179, u180, u181, u182, u183, u184, u185, u186, u187, u188, u189, u190, u191, u192, u193, u194, u195, u196, u197, u198, u199, u200, x201, x202, x203, x204, x205, x206, x207, x208, x209, x210, x211, x212, x213, x214, u215, u216, u217, u218, u219, u220, u221, u222, u223, u224, u225, u226, u227, u228, u229, u230, u231, u232, u233, u234, u235, u236, u237, u238, u239, u240, u241, u242, u243, u244, u245, u246, u247, u248, u249, u250, u251, u252, u253, u254, u255, u256, u257, u258, u259, u260, u261, u262, u263, u264, u265, u266, u267], []⟩ w1) :
    Code.wp Tryz.prog (cut [1, 1, 1, 1, 1, 1, 1, 1, 0, 1, 2, 5, 1, 0, 2, 1, 1, 1, 1, 1, 1, 1] (Tryz.f5.body.getD .skip)) Q ⟨#[.int .i64 n, .int .i64 rows, .slice a2 n2 c2, .slice a3 n3 c3, .string s4, u5, u6, u7, u8, u9, u10, .pointer (some ⟨x.p, 0, none⟩), u12, u13, u14, u15, u16, u17, .slice av nv cv, .int .i64 (k : Int), .int .i64 (d : Int), u21, u22, u23, u24, u25, .bool (decide (rt A c k d = t4)), u27, u28, u29, u30, u31, u32, u33, u34, u35, u36, u37, u38, u39, u40, u41, u42, u43, u44, u45, u46, u47, u48, u49, u50, u51, u52, u53, u54, u55, u56, u57, u58, u59, u60, u61, u62, u63, u64, u65, u66, u67, u68, u69, u70, u71, u72, u73, u74, u75, u76, u77, u78, u79, u80, u81, u82, u83, u84, u85, u86, u87, u88, u89, u90, u91, u92, u93, u94, u95, u96, u97, u98, u99, u100, u101, u102, u103, u104, u105, u106, u107, u108, u109, u110, u111, u112, u113, u114, u115, u116, u117, u118, u119, u120, u121, u122, u123, u124, u125, u126, u127, u128, u129, u130, u131, u132, u133, u134, u135, u136, u137, u138, u139, u140, u141, u142, u143, u144, u145, u146, u147, u148, u149, u150, u151, u152, u153, u154, u155, u156, u157, u158, u159, u160, u161, u162, u163, u164, u165, u166, u167, u168, u169, u170, u171, u172, u173, u174, u175, u176, u177, u178, u179, u180, u181, u182, u183, u184, u185, u186, u187, u188, u189, u190, u191, u192, u193, u194, u195, u196, u197, u198, u199, u200, u201, u202, u203, u204, u205, u206, u207, u208, u209, u210, u211, u212, u213, u214, u215, u216, u217, u218, u219, u220, u221, u222, u223, u224, u225, u226, u227, u228, u229, u230, u231, u232, u233, u234, u235, u236, u237, u238, u239, u240, u241, u242, u243, u244, u245, u246, u247, u248, u249, u250, u251, u252, u253, u254, u255, u256, u257, u258, u259, u260, u261, u262, u263, u264, u265, u266, u267], []⟩ wc := by
  conv => arg 2; whnf
  obtain ⟨i0, hi0, hz0, hz1, hz2⟩ := info_parts infoSp
  have P := hS.poke hN hk hd ht4
  have HT : Hid (s4 = sb t4) := hs4
  have hlen := wrongs_len A c D T k
  have HV : Hid (nv = (wrongs A c D T k).length) := hnv
  rw [← hnv] at hlen P
  unfold st at P
  rw [← hs4] at P
  clear hS hs4 hnv
  by_cases hq : rt A c k d = t4
  · have hq2 : t4 = rt A c k d := hq.symm
    rw [decide_eq_true hq] at hQ ⊢
    have HQ : Hid _ := hQ
    clear hq hQ
    go_wp2_with fail
    refine P.mono ?_
    rintro e w1 ⟨rfl, h1, _, _, _, _⟩
    have HS1 : Hid (MH w x n rows g m B c (A.poke (d : Int) (k : Int) t4) (up D k d) (up T k t4) (k + 1) (N + 1) (.slice av nv cv) w1) := h1 hq2
    clear P h1 hq2
    go_wp2
    exact HQ.out _ _ _ _ _ _ _ _ _ _ _ _ _ _ _ _ _ _ _ HS1.out
  · have hq2 : t4 ≠ rt A c k d := fun e => hq e.symm
    rw [decide_eq_false hq] at hQ ⊢
    have HQ : Hid _ := hQ
    clear hq hQ
    go_wp2_with fail
    refine P.mono ?_
    rintro e w1 ⟨rfl, _, h1, h2, hBw, hlow⟩
    have HN : Hid _ := h1 hq2
    have hwB := hlow.size
    clear P h1 hq2 hlow
    go_wp2_with (first | (at_builtin; refine wpList_append_own _ rfl _ _ 58 rfl B 60 i0 (.agg #[.int .i64 0, .int .i64 0]) 2 16 Tryz.underlying58 hi0 hz0 hz1 hz2 rfl (by decide) _ _ _ rfl (World.ownsRow.alloc h2 _) ⟨w1.heap.size, 0, none⟩ 1 1 (spv (d, k)) rfl rfl (spot_cells d k _) (by intro u hu; simp [spv] at hu; rcases hu with rfl | rfl <;> rfl) (by unfold maxLen; omega) (by omega) (by simp; omega) ?_))
    intro v3 w3 hown3 hgrow3 _
    have HS3 : Hid (MH w x n rows g m B c (A.poke (d : Int) (k : Int) t4) (up D k d) (up T k t4) (k + 1) (N + 1) (v3) w3) := HN.out v3 w3 hown3 hgrow3
    clear hown3 hgrow3 h2 HN
    go_wp2
    exact HQ.out _ _ _ _ _ _ _ _ _ _ _ _ _ _ _ _ _ _ _ HS3.out
end Go.Proofs.YtilfjahbdlepjaaGreatDoor
