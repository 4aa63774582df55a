/- RedoKeeps, a piece: walks over the program. -/
import Derived.Test.YtacfafbnimhibaaDoorRKa
import Derived.Test.YtacfafbnimhibaaDoorViewW
import Derived.Deep.Cut
import Derived.Deep.CutRange
import Derived.BigCall
import Derived.BigGuard
namespace Go.Proofs.YtacfafbnimhibaaDoor
open Go.RowKit El Pol
set_option linter.unusedVariables false in
set_option maxRecDepth 1000000 in
set_option maxHeartbeats 4000000 in
theorem k_sync (n0 c0 n1 c1 n2 c2 n3 c3 n4 c4 p : Nat) (a0 a1 a2 a3 a4 : Option Addr) (w : World) (f : Nat → List El) (ds : List (List Wr)) (t : Rdo) (gd cd gm cm r : Nat) (rv : Nat → Value) (q : Nat) (f2 : Nat → Int) (u5 u6 u7 u8 u9 u11 u12 u13 u14 u15 u16 u17 u19 u20 u24 u25 u26 u27 u28 u29 u30 u31 u32 u33 u34 u35 u36 u37 u38 u39 u40 u41 u42 u43 u44 u45 u46 u47 u48 u49 u50 u51 u52 u53 u54 u55 u56 u57 u58 u59 u60 u61 u62 u63 u64 u65 u66 u67 u68 u69 u70 u71 u72 u73 u74 u75 u76 u77 u78 u79 u80 u81 u82 u83 u84 u85 u86 u87 u88 u89 u90 u91 u92 u93 u94 u95 u96 u97 u98 u99 u100 u101 u102 u103 u104 u105 u106 u107 u108 u109 u110 u111 u112 u113 u114 u115 u116 u117 u118 u119 u120 u121 u122 u123 u124 u125 u126 u127 u128 u129 u130 u131 u132 u133 u134 u135 u136 u137 u138 u139 u140 u141 u142 u143 u144 u145 u146 u147 u148 u149 u150 u151 u152 u153 u154 u155 u156 u157 u158 u159 u160 u161 u162 u163 u164 u165 u166 u167 u168 u169 u170 u171 u172 u173 u174 u175 u176 u177 u178 u179 u180 u181 u182 u183 u184 u185 u186 u187 u188 u189 u190 u191 u192 u193 u194 u195 u196 u197 u198 u199 u200 u201 u202 u203 u204 u205 u206 u207 u208 u209 u210 u211 u212 u213 u214 u215 u216 u217 u218 u219 u220 u221 u222 u223 u224 u225 u226 u227 u228 u229 u230 u231 u232 u233 u234 u235 u236 u237 u238 u239 u240 u241 u242 u243 u244 u245 u246 u247 u248 u249 u250 u251 u252 u253 u254 u255 u256 u257 u258 u259 u260 u261 u262 u263 u264 u265 u266 u267 u268 u269 u270 u271 u272 u273 u274 u275 u276 u277 u278 u279 u280 u281 u282 u283 u284 u285 u286 u287 u288 u289 u290 u291 u292 u293 u294 u295 u296 u297 u298 u299 u300 u301 u302 u303 u304 u305 u306 u307 u308 : Value) (wc : World) (Q : Exit → Act → World → Prop)
    (hS : KN w p n0 f ds t gd cd gm cm r rv wc) (r2 : RdF w (.slice a2 n2 c2) n2 (fun i => .int .i64 (f2 i))) (hn2 : n2 ≤ 17592186044416) (hq40 : q ≤ 5864062014634)
    (hQ : ∀ (x143 x144 x145 x146 x147 x148 x149 x150 x151 x152 x153 x154 x155 x156 x157 x158 x159 x160 x161 x162 x163 x164 : Value) (t' : Rdo) (w1 : World), KN w p n0 f ds t' gd cd gm cm r rv w1 → t'.rs = t.rs → Q .normal ⟨#[.slice a0 n0 c0, .slice a1 n1 c1, .slice a2 n2 c2, .slice a3 n3 c3, .slice a4 n4 c4, u5, u6, u7, u8, u9, .bool false, u11, u12, u13, u14, u15, u16, u17, .pointer (some ⟨p, 0, none⟩), u19, u20, .slice (some ⟨gd, 0, none⟩) (r + 1) cd, .slice (some ⟨gm, 0, none⟩) (r + 1) cm, .int .i64 ((q : Nat) : Int), u24, u25, u26, u27, u28, u29, u30, u31, u32, u33, u34, u35, u36, u37, u38, u39, u40, u41, u42, u43, u44, u45, u46, u47, u48, u49, u50, u51, u52, u53, u54, u55, u56, u57, u58, u59, u60, u61, u62, u63, u64, u65, u66, u67, u68, u69, u70, u71, u72, u73, u74, u75, u76, u77, u78, u79, u80, u81, u82, u83, u84, u85, u86, u87, u88, u89, u90, u91, u92, u93, u94, u95, u96, u97, u98, u99, u100, u101, u102, u103, u104, u105, u106, u107, u108, u109, u110, u111, u112, u113, u114, u115, u116, u117, u118, u119, u120, u121, u122, u123, u124, u125, u126, u127, u128, u129, u130, u131, u132, u133, u134, u135, u136, u137, u138, u139, u140, u141, u142, x143, x144, x145, x146, x147, x148, x149, x150, x151, x152, x153, x154, x155, x156, x157, x158, x159, x160, x161, x162, x163, x164, .bool false, u166, u167, u168, u169, u170, u171, u172, u173, u174, u175, u176, u177, u178, u179, u180, u181, u182, u183, u184, u185, u186, u187, u188, u189, u190, u191, u192, u193, u194, u195, u196, u197, u198, u199, u200, u201, u202, u203, u204, u205, u206, u207, u208, u209, u210, u211, u212, u213, u214, u215, u216, u217, u218, u219, u220, u221, u222, u223, u224, u225, u226, u227, u228, u229, u230, u231, u232, u233, u234, u235, u236, u237, u238, u239, u240, u241, u242, u243, u244, u245, u246, u247, u248, u249, u250, u251, u252, u253, u254, u255, u256, u257, u258, u259, u260, u261, u262, u263, u264, u265, u266, u267, u268, u269, u270, u271, u272, u273, u274, u275, u276, u277, u278, u279, u280, u281, u282, u283, u284, u285, u286, u287, u288, u289, u290, u291, u292, u293, u294, u295, u296, u297, u298, u299, u300, u301, u302, u303, u304, u305, u306, u307, u308], []⟩ w1) :
    Code.wp Tryd.prog (cut [1, 1, 1, 1, 1, 1, 1, 1, 1, 1, 1, 1, 1, 1, 1, 1, 0, 1, 2, 5, 1, 0, 2, 1, 0, 1, 2, 5, 1, 0, 2, 0] (Tryd.f6.body.getD .skip)) Q ⟨#[.slice a0 n0 c0, .slice a1 n1 c1, .slice a2 n2 c2, .slice a3 n3 c3, .slice a4 n4 c4, u5, u6, u7, u8, u9, .bool false, u11, u12, u13, u14, u15, u16, u17, .pointer (some ⟨p, 0, none⟩), u19, u20, .slice (some ⟨gd, 0, none⟩) (r + 1) cd, .slice (some ⟨gm, 0, none⟩) (r + 1) cm, .int .i64 ((q : Nat) : Int), u24, u25, u26, u27, u28, u29, u30, u31, u32, u33, u34, u35, u36, u37, u38, u39, u40, u41, u42, u43, u44, u45, u46, u47, u48, u49, u50, u51, u52, u53, u54, u55, u56, u57, u58, u59, u60, u61, u62, u63, u64, u65, u66, u67, u68, u69, u70, u71, u72, u73, u74, u75, u76, u77, u78, u79, u80, u81, u82, u83, u84, u85, u86, u87, u88, u89, u90, u91, u92, u93, u94, u95, u96, u97, u98, u99, u100, u101, u102, u103, u104, u105, u106, u107, u108, u109, u110, u111, u112, u113, u114, u115, u116, u117, u118, u119, u120, u121, u122, u123, u124, u125, u126, u127, u128, u129, u130, u131, u132, u133, u134, u135, u136, u137, u138, u139, u140, u141, u142, u143, u144, u145, u146, u147, u148, u149, u150, u151, u152, u153, u154, u155, u156, u157, u158, u159, u160, u161, u162, u163, u164, u165, u166, u167, u168, u169, u170, u171, u172, u173, u174, u175, u176, u177, u178, u179, u180, u181, u182, u183, u184, u185, u186, u187, u188, u189, u190, u191, u192, u193, u194, u195, u196, u197, u198, u199, u200, u201, u202, u203, u204, u205, u206, u207, u208, u209, u210, u211, u212, u213, u214, u215, u216, u217, u218, u219, u220, u221, u222, u223, u224, u225, u226, u227, u228, u229, u230, u231, u232, u233, u234, u235, u236, u237, u238, u239, u240, u241, u242, u243, u244, u245, u246, u247, u248, u249, u250, u251, u252, u253, u254, u255, u256, u257, u258, u259, u260, u261, u262, u263, u264, u265, u266, u267, u268, u269, u270, u271, u272, u273, u274, u275, u276, u277, u278, u279, u280, u281, u282, u283, u284, u285, u286, u287, u288, u289, u290, u291, u292, u293, u294, u295, u296, u297, u298, u299, u300, u301, u302, u303, u304, u305, u306, u307, u308], []⟩ wc := by
  conv => arg 2; whnf
  have HQ : Hid _ := hQ
  have HS : Hid (KN w p n0 f ds t gd cd gm cm r rv wc) := hS
  clear hQ

  have hlen : (n2 : Int) ≤ 9223372036854775807 := by omega
  by_cases hq2 : q < n2
  · obtain ⟨ad, ha, hc⟩ := (r2.old hS.1.low).at q hq2
    subst ha
    have hqz : (q : Int) < (n2 : Int) := by omega
    by_cases h1 : f2 q = 1
    · rw [h1] at hc
      have C := rl_sync hS.1.rl
      have hok := hS.1.rl.ok
      by_cases hsy : t.syncE = 0
      · rw [hsy, errV, if_pos rfl] at C
        have hz : ¬ (t.stopped = true ∨ t.ahead = 0) := fun z => by unfold Rdo.syncE at hsy; rw [if_pos z] at hsy; omega
        have hsf : t.sync.safe = t.log.length ∧ t.sync.log.length = t.log.length ∧ t.sync.rs = t.rs ∧ t.sync.n = t.n ∧ t.sync.first = t.first := by
          unfold Rdo.sync
          rw [if_neg (fun z => hz (.inl z)), if_neg (fun z => hz (.inr z))]
          exact ⟨rfl, rfl, rfl, rfl, rfl⟩
        obtain ⟨s1, s2, s3, s4, s5⟩ := hsf
        have HX : Hid (t.sync.rs = t.rs ∧ t.sync.n = t.n ∧ t.sync.first = t.first) := ⟨s3, s4, s5⟩
        clear hS hsy hz h1 s3 s4 s5 hok
        go_wp2_with fail
        refine C.mono ?_
        rintro e w2 ⟨rfl, hR2, hk2⟩
        have HS2 : Hid (KN w p n0 f ds t.sync gd cd gm cm r rv w2) := ⟨HS.out.1.call hR2 hk2 HX.out.2.1 HX.out.2.2, HS.out.2⟩
        have D := rl_safe hR2
        have E := rl_bytes hR2
        rw [s1] at D
        rw [s2] at E
        clear C hR2 hk2
        go_wp2_with fail
        refine D.mono ?_
        rintro e w3 ⟨rfl, hw3⟩
        obtain rfl := hw3.symm
        clear D hw3
        go_wp2_with fail
        refine E.mono ?_
        rintro e w4 ⟨rfl, hw4⟩
        obtain rfl := hw4.symm
        clear E hw4
        generalize t.log.length = ll at *
        go_wp2
        exact HQ.out _ _ _ _ _ _ _ _ _ _ _ _ _ _ _ _ _ _ _ _ _ _ t.sync _ HS2.out HX.out.1
      · have hs6 : t.syncE = 6 := by
          unfold Rdo.syncE at hsy ⊢
          split
          · rfl
          · rename_i z; rw [if_neg z] at hsy; exact absurd rfl hsy
        rw [hs6, errV, if_neg (by omega)] at C
        have hsf : t.sync.rs = t.rs ∧ t.sync.n = t.n ∧ t.sync.first = t.first := by
          unfold Rdo.sync
          split
          · exact ⟨rfl, rfl, rfl⟩
          · split
            · exact ⟨rfl, rfl, rfl⟩
            · exact ⟨rfl, rfl, rfl⟩
        have HX : Hid (t.sync.rs = t.rs ∧ t.sync.n = t.n ∧ t.sync.first = t.first) := hsf
        clear hS hsy hs6 h1 hsf hok
        go_wp2_with fail
        refine C.mono ?_
        rintro e w2 ⟨rfl, hR2, hk2⟩
        have HS2 : Hid (KN w p n0 f ds t.sync gd cd gm cm r rv w2) := ⟨HS.out.1.call hR2 hk2 HX.out.2.1 HX.out.2.2, HS.out.2⟩
        clear C hR2 hk2
        go_wp2
        exact HQ.out _ _ _ _ _ _ _ _ _ _ _ _ _ _ _ _ _ _ _ _ _ _ t.sync _ HS2.out HX.out.1
    · have hb1 : (f2 q == 1) = false := by rw [beq_eq_false_iff_ne]; exact h1
      clear hS h1
      generalize f2 q = z at *
      go_wp2
      exact HQ.out _ _ _ _ _ _ _ _ _ _ _ _ _ _ _ _ _ _ _ _ _ _ t _ HS.out rfl
  · have hqz : (n2 : Int) ≤ (q : Int) := by omega
    clear hS
    go_wp2
    exact HQ.out _ _ _ _ _ _ _ _ _ _ _ _ _ _ _ _ _ _ _ _ _ _ t _ HS.out rfl

set_option linter.unusedVariables false in
set_option maxRecDepth 1000000 in
set_option maxHeartbeats 4000000 in
theorem k_now (n0 c0 n1 c1 n2 c2 n3 c3 n4 c4 p : Nat) (a0 a1 a2 a3 a4 : Option Addr) (w : World) (f : Nat → List El) (ds : List (List Wr)) (t : Rdo) (gd cd gm cm r : Nat) (rv : Nat → Value) (u5 u6 u7 u8 u9 u11 u12 u13 u14 u15 u16 u17 u19 u20 u23 u24 u25 u26 u27 u28 u29 u30 u31 u32 u33 u34 u35 u36 u37 u38 u39 u40 u41 u42 u43 u44 u45 u46 u47 u48 u49 u50 u51 u52 u53 u54 u55 u56 u57 u58 u59 u60 u61 u62 u63 u64 u65 u66 u67 u68 u69 u70 u71 u72 u73 u74 u75 u76 u77 u78 u79 u80 u81 u82 u83 u84 u85 u86 u87 u88 u89 u90 u91 u92 u93 u94 u95 u96 u97 u98 u99 u100 u101 u102 u103 u104 u105 u106 u107 u108 u109 u110 u111 u112 u113 u114 u115 u116 u117 u118 u119 u120 u121 u122 u123 u124 u125 u126 u127 u128 u129 u130 u131 u132 u133 u134 u135 u136 u137 u138 u139 u140 u141 u142 u143 u144 u145 u146 u147 u148 u149 u150 u151 u152 u153 u154 u155 u156 u157 u158 u159 u160 u161 u162 u163 u164 u165 u166 u167 u168 u169 u170 u171 u172 u173 u174 u175 u176 u177 u178 u179 u180 u181 u182 u183 u184 u185 u186 u187 u188 u189 u190 u191 u192 u193 u194 u195 u196 u197 u198 u199 u200 u201 u202 u203 u204 u205 u206 u207 u208 u209 u210 u211 u212 u213 u214 u215 u216 u217 u218 u219 u220 u221 u222 u223 u224 u225 u226 u227 u228 u229 u230 u231 u232 u233 u234 u235 u236 u237 u238 u239 u240 u241 u242 u243 u244 u245 u246 u247 u248 u249 u250 u251 u252 u253 u254 u255 u256 u257 u258 u259 u260 u261 u262 u263 u264 u265 u266 u267 u268 u269 u270 u271 u272 u273 u274 u275 u276 u277 u278 u279 u280 u281 u282 u283 u284 u285 u286 u287 u288 u289 u290 u291 u292 u293 u294 u295 u296 u297 u298 u299 u300 u301 u302 u303 u304 u305 u306 u307 u308 : Value) (wc : World) (Q : Exit → Act → World → Prop)
    (hS : KN w p n0 f ds t gd cd gm cm r rv wc)
    (hQ : ∀ (x166 x167 x168 x169 x170 : Value)  (w1 : World), KN w p n0 f ds t gd cd gm cm r rv w1 → Q .normal ⟨#[.slice a0 n0 c0, .slice a1 n1 c1, .slice a2 n2 c2, .slice a3 n3 c3, .slice a4 n4 c4, u5, u6, u7, u8, u9, .bool false, u11, u12, u13, u14, u15, u16, u17, .pointer (some ⟨p, 0, none⟩), u19, u20, .slice (some ⟨gd, 0, none⟩) (r + 1) cd, .slice (some ⟨gm, 0, none⟩) (r + 1) cm, u23, u24, u25, rv r, u27, u28, u29, u30, u31, u32, u33, u34, u35, u36, u37, u38, u39, u40, u41, u42, u43, u44, u45, u46, u47, u48, u49, u50, u51, u52, u53, u54, u55, u56, u57, u58, u59, u60, u61, u62, u63, u64, u65, u66, u67, u68, u69, u70, u71, u72, u73, u74, u75, u76, u77, u78, u79, u80, u81, u82, u83, u84, u85, u86, u87, u88, u89, u90, u91, u92, u93, u94, u95, u96, u97, u98, u99, u100, u101, u102, u103, u104, u105, u106, u107, u108, u109, u110, u111, u112, u113, u114, u115, u116, u117, u118, u119, u120, u121, u122, u123, u124, u125, u126, u127, u128, u129, u130, u131, u132, u133, u134, u135, u136, u137, u138, u139, u140, u141, u142, u143, u144, u145, u146, u147, u148, u149, u150, u151, u152, u153, u154, u155, u156, u157, u158, u159, u160, u161, u162, u163, u164, u165, x166, x167, x168, x169, x170, rv r, u172, u173, u174, u175, u176, u177, u178, u179, u180, u181, u182, u183, u184, u185, u186, u187, u188, u189, u190, u191, u192, u193, u194, u195, u196, u197, u198, u199, u200, u201, u202, u203, u204, u205, u206, u207, u208, u209, u210, u211, u212, u213, u214, u215, u216, u217, u218, u219, u220, u221, u222, u223, u224, u225, u226, u227, u228, u229, u230, u231, u232, u233, u234, u235, u236, u237, u238, u239, u240, u241, u242, u243, u244, u245, u246, u247, u248, u249, u250, u251, u252, u253, u254, u255, u256, u257, u258, u259, u260, u261, u262, u263, u264, u265, u266, u267, u268, u269, u270, u271, u272, u273, u274, u275, u276, u277, u278, u279, u280, u281, u282, u283, u284, u285, u286, u287, u288, u289, u290, u291, u292, u293, u294, u295, u296, u297, u298, u299, u300, u301, u302, u303, u304, u305, u306, u307, u308], []⟩ w1) :
    Code.wp Tryd.prog (cut [1, 1, 1, 1, 1, 1, 1, 1, 1, 1, 1, 1, 1, 1, 1, 1, 0, 1, 2, 5, 1, 0, 2, 1, 0, 1, 2, 5, 1, 0, 2, 1, 0] (Tryd.f6.body.getD .skip)) Q ⟨#[.slice a0 n0 c0, .slice a1 n1 c1, .slice a2 n2 c2, .slice a3 n3 c3, .slice a4 n4 c4, u5, u6, u7, u8, u9, .bool false, u11, u12, u13, u14, u15, u16, u17, .pointer (some ⟨p, 0, none⟩), u19, u20, .slice (some ⟨gd, 0, none⟩) (r + 1) cd, .slice (some ⟨gm, 0, none⟩) (r + 1) cm, u23, u24, u25, u26, u27, u28, u29, u30, u31, u32, u33, u34, u35, u36, u37, u38, u39, u40, u41, u42, u43, u44, u45, u46, u47, u48, u49, u50, u51, u52, u53, u54, u55, u56, u57, u58, u59, u60, u61, u62, u63, u64, u65, u66, u67, u68, u69, u70, u71, u72, u73, u74, u75, u76, u77, u78, u79, u80, u81, u82, u83, u84, u85, u86, u87, u88, u89, u90, u91, u92, u93, u94, u95, u96, u97, u98, u99, u100, u101, u102, u103, u104, u105, u106, u107, u108, u109, u110, u111, u112, u113, u114, u115, u116, u117, u118, u119, u120, u121, u122, u123, u124, u125, u126, u127, u128, u129, u130, u131, u132, u133, u134, u135, u136, u137, u138, u139, u140, u141, u142, u143, u144, u145, u146, u147, u148, u149, u150, u151, u152, u153, u154, u155, u156, u157, u158, u159, u160, u161, u162, u163, u164, u165, u166, u167, u168, u169, u170, u171, u172, u173, u174, u175, u176, u177, u178, u179, u180, u181, u182, u183, u184, u185, u186, u187, u188, u189, u190, u191, u192, u193, u194, u195, u196, u197, u198, u199, u200, u201, u202, u203, u204, u205, u206, u207, u208, u209, u210, u211, u212, u213, u214, u215, u216, u217, u218, u219, u220, u221, u222, u223, u224, u225, u226, u227, u228, u229, u230, u231, u232, u233, u234, u235, u236, u237, u238, u239, u240, u241, u242, u243, u244, u245, u246, u247, u248, u249, u250, u251, u252, u253, u254, u255, u256, u257, u258, u259, u260, u261, u262, u263, u264, u265, u266, u267, u268, u269, u270, u271, u272, u273, u274, u275, u276, u277, u278, u279, u280, u281, u282, u283, u284, u285, u286, u287, u288, u289, u290, u291, u292, u293, u294, u295, u296, u297, u298, u299, u300, u301, u302, u303, u304, u305, u306, u307, u308], []⟩ wc := by
  conv => arg 2; whnf
  have HQ : Hid _ := hQ
  have HS : Hid (KN w p n0 f ds t gd cd gm cm r rv wc) := hS
  clear hQ

  obtain ⟨hK, hr, hr40⟩ := hS
  have hcell : wc.cell? ⟨gd, r, none⟩ = some (rv r) := by
    obtain ⟨g, cap, e, hc, _⟩ := hK.at r (by omega)
    simp only [Value.slice.injEq, Option.some.injEq, Addr.mk.injEq, and_true] at e
    rw [e.1]
    exact hc
  have hrow := hK.row r (by omega)
  obtain ⟨ao, cao, hrv, hl1, hl2⟩ := hrow.len
  have HRV : Hid (rv r = .slice ao n0 cao) := hrv
  rw [hrv] at hcell
  clear hK hrow hrv
  have hsub : ((r : Int) + 1) - 1 = (r : Int) := by omega
  go_wp2
  rw [← HRV.out]
  exact HQ.out _ _ _ _ _ _ HS.out

set_option linter.unusedVariables false in
set_option maxRecDepth 1000000 in
set_option maxHeartbeats 4000000 in
theorem k_writes (n0 c0 n1 c1 n2 c2 n3 c3 n4 c4 p : Nat) (a0 a1 a2 a3 a4 : Option Addr) (w : World) (f : Nat → List El) (ds : List (List Wr)) (t : Rdo) (gd cd gm cm r : Nat) (rv : Nat → Value) (q : Nat) (L : Nat → List Wr) (u5 u6 u7 u8 u9 u11 u12 u13 u14 u15 u16 u17 u19 u20 u24 u25 u26 u27 u28 u29 u30 u31 u32 u33 u34 u35 u36 u37 u38 u39 u40 u41 u42 u43 u44 u45 u46 u47 u48 u49 u50 u51 u52 u53 u54 u55 u56 u57 u58 u59 u60 u61 u62 u63 u64 u65 u66 u67 u68 u69 u70 u71 u72 u73 u74 u75 u76 u77 u78 u79 u80 u81 u82 u83 u84 u85 u86 u87 u88 u89 u90 u91 u92 u93 u94 u95 u96 u97 u98 u99 u100 u101 u102 u103 u104 u105 u106 u107 u108 u109 u110 u111 u112 u113 u114 u115 u116 u117 u118 u119 u120 u121 u122 u123 u124 u125 u126 u127 u128 u129 u130 u131 u132 u133 u134 u135 u136 u137 u138 u139 u140 u141 u142 u143 u144 u145 u146 u147 u148 u149 u150 u151 u152 u153 u154 u155 u156 u157 u158 u159 u160 u161 u162 u163 u164 u165 u166 u167 u168 u169 u170 u171 u172 u173 u174 u175 u176 u177 u178 u179 u180 u181 u182 u183 u184 u185 u186 u187 u188 u189 u190 u191 u192 u193 u194 u195 u196 u197 u198 u199 u200 u201 u202 u203 u204 u205 u206 u207 u208 u209 u210 u211 u212 u213 u214 u215 u216 u217 u218 u219 u220 u221 u222 u223 u224 u225 u226 u227 u228 u229 u230 u231 u232 u233 u234 u235 u236 u237 u238 u239 u240 u241 u242 u243 u244 u245 u246 u247 u248 u249 u250 u251 u252 u253 u254 u255 u256 u257 u258 u259 u260 u261 u262 u263 u264 u265 u266 u267 u268 u269 u270 u271 u272 u273 u274 u275 u276 u277 u278 u279 u280 u281 u282 u283 u284 u285 u286 u287 u288 u289 u290 u291 u292 u293 u294 u295 u296 u297 u298 u299 u300 u301 u302 u303 u304 u305 u306 u307 u308 : Value) (wc : World) (Q : Exit → Act → World → Prop)
    (hS : KN w p n0 f ds t gd cd gm cm r rv wc) (r1 : RdWW w (.slice a1 n1 c1) n1 L) (hn1 : n1 ≤ 5864062014634) (hq : q < n1)
    (hQ : ∀ (x172 x173 x174 x175 x176 x177 : Value)  (w1 : World), KN w p n0 f ds t gd cd gm cm r rv w1 → Q .normal ⟨#[.slice a0 n0 c0, .slice a1 n1 c1, .slice a2 n2 c2, .slice a3 n3 c3, .slice a4 n4 c4, u5, u6, u7, u8, u9, .bool false, u11, u12, u13, u14, u15, u16, u17, .pointer (some ⟨p, 0, none⟩), u19, u20, .slice (some ⟨gd, 0, none⟩) (r + 1) cd, .slice (some ⟨gm, 0, none⟩) (r + 1) cm, .int .i64 ((q : Nat) : Int), u24, u25, u26, .int .i64 ((writesE n0 (L q) : Nat) : Int), u28, u29, u30, u31, u32, u33, u34, u35, u36, u37, u38, u39, u40, u41, u42, u43, u44, u45, u46, u47, u48, u49, u50, u51, u52, u53, u54, u55, u56, u57, u58, u59, u60, u61, u62, u63, u64, u65, u66, u67, u68, u69, u70, u71, u72, u73, u74, u75, u76, u77, u78, u79, u80, u81, u82, u83, u84, u85, u86, u87, u88, u89, u90, u91, u92, u93, u94, u95, u96, u97, u98, u99, u100, u101, u102, u103, u104, u105, u106, u107, u108, u109, u110, u111, u112, u113, u114, u115, u116, u117, u118, u119, u120, u121, u122, u123, u124, u125, u126, u127, u128, u129, u130, u131, u132, u133, u134, u135, u136, u137, u138, u139, u140, u141, u142, u143, u144, u145, u146, u147, u148, u149, u150, u151, u152, u153, u154, u155, u156, u157, u158, u159, u160, u161, u162, u163, u164, u165, u166, u167, u168, u169, u170, u171, x172, x173, x174, x175, x176, x177, .int .i64 ((writesE n0 (L q) : Nat) : Int), u179, u180, u181, u182, u183, u184, u185, u186, u187, u188, u189, u190, u191, u192, u193, u194, u195, u196, u197, u198, u199, u200, u201, u202, u203, u204, u205, u206, u207, u208, u209, u210, u211, u212, u213, u214, u215, u216, u217, u218, u219, u220, u221, u222, u223, u224, u225, u226, u227, u228, u229, u230, u231, u232, u233, u234, u235, u236, u237, u238, u239, u240, u241, u242, u243, u244, u245, u246, u247, u248, u249, u250, u251, u252, u253, u254, u255, u256, u257, u258, u259, u260, u261, u262, u263, u264, u265, u266, u267, u268, u269, u270, u271, u272, u273, u274, u275, u276, u277, u278, u279, u280, u281, u282, u283, u284, u285, u286, u287, u288, u289, u290, u291, u292, u293, u294, u295, u296, u297, u298, u299, u300, u301, u302, u303, u304, u305, u306, u307, u308], []⟩ w1) :
    Code.wp Tryd.prog (cut [1, 1, 1, 1, 1, 1, 1, 1, 1, 1, 1, 1, 1, 1, 1, 1, 0, 1, 2, 5, 1, 0, 2, 1, 0, 1, 2, 5, 1, 0, 2, 1, 1, 0] (Tryd.f6.body.getD .skip)) Q ⟨#[.slice a0 n0 c0, .slice a1 n1 c1, .slice a2 n2 c2, .slice a3 n3 c3, .slice a4 n4 c4, u5, u6, u7, u8, u9, .bool false, u11, u12, u13, u14, u15, u16, u17, .pointer (some ⟨p, 0, none⟩), u19, u20, .slice (some ⟨gd, 0, none⟩) (r + 1) cd, .slice (some ⟨gm, 0, none⟩) (r + 1) cm, .int .i64 ((q : Nat) : Int), u24, u25, u26, u27, u28, u29, u30, u31, u32, u33, u34, u35, u36, u37, u38, u39, u40, u41, u42, u43, u44, u45, u46, u47, u48, u49, u50, u51, u52, u53, u54, u55, u56, u57, u58, u59, u60, u61, u62, u63, u64, u65, u66, u67, u68, u69, u70, u71, u72, u73, u74, u75, u76, u77, u78, u79, u80, u81, u82, u83, u84, u85, u86, u87, u88, u89, u90, u91, u92, u93, u94, u95, u96, u97, u98, u99, u100, u101, u102, u103, u104, u105, u106, u107, u108, u109, u110, u111, u112, u113, u114, u115, u116, u117, u118, u119, u120, u121, u122, u123, u124, u125, u126, u127, u128, u129, u130, u131, u132, u133, u134, u135, u136, u137, u138, u139, u140, u141, u142, u143, u144, u145, u146, u147, u148, u149, u150, u151, u152, u153, u154, u155, u156, u157, u158, u159, u160, u161, u162, u163, u164, u165, u166, u167, u168, u169, u170, u171, u172, u173, u174, u175, u176, u177, u178, u179, u180, u181, u182, u183, u184, u185, u186, u187, u188, u189, u190, u191, u192, u193, u194, u195, u196, u197, u198, u199, u200, u201, u202, u203, u204, u205, u206, u207, u208, u209, u210, u211, u212, u213, u214, u215, u216, u217, u218, u219, u220, u221, u222, u223, u224, u225, u226, u227, u228, u229, u230, u231, u232, u233, u234, u235, u236, u237, u238, u239, u240, u241, u242, u243, u244, u245, u246, u247, u248, u249, u250, u251, u252, u253, u254, u255, u256, u257, u258, u259, u260, u261, u262, u263, u264, u265, u266, u267, u268, u269, u270, u271, u272, u273, u274, u275, u276, u277, u278, u279, u280, u281, u282, u283, u284, u285, u286, u287, u288, u289, u290, u291, u292, u293, u294, u295, u296, u297, u298, u299, u300, u301, u302, u303, u304, u305, u306, u307, u308], []⟩ wc := by
  conv => arg 2; whnf
  have HQ : Hid _ := hQ
  have HS : Hid (KN w p n0 f ds t gd cd gm cm r rv wc) := hS
  clear hQ
  obtain ⟨rw1, hr1, hr2⟩ := r1
  obtain ⟨ad1, ha1, hc1⟩ := (hr1.old hS.1.low).at q hq
  subst ha1
  have hrw := (hr2 q hq).old hS.1.low
  have hqz : (q : Int) < (n1 : Int) := by omega
  obtain ⟨ao, cap', hrv, _, _⟩ := hrw.len
  rw [hrv] at hc1 hrw
  clear hr1 hr2 hrv

  have C := rwrites_any n0 _ _ _ hrw
  clear hS
  go_wp2_with fail
  refine C.mono ?_
  rintro e w2 ⟨rfl, hw2⟩
  obtain rfl := hw2.symm
  clear C hw2
  go_wp2
  exact HQ.out _ _ _ _ _ _ _ HS.out

set_option linter.unusedVariables false in
set_option maxRecDepth 1000000 in
set_option maxHeartbeats 4000000 in
theorem k_bytes (n0 c0 n1 c1 n2 c2 n3 c3 n4 c4 p : Nat) (a0 a1 a2 a3 a4 : Option Addr) (w : World) (f : Nat → List El) (ds : List (List Wr)) (t : Rdo) (gd cd gm cm r : Nat) (rv : Nat → Value) (u5 u6 u7 u8 u9 u11 u12 u13 u14 u15 u16 u17 u19 u20 u23 u24 u25 u26 u27 u28 u29 u30 u31 u32 u33 u34 u35 u36 u37 u38 u39 u40 u41 u42 u43 u44 u45 u46 u47 u48 u49 u50 u51 u52 u53 u54 u55 u56 u57 u58 u59 u60 u61 u62 u63 u64 u65 u66 u67 u68 u69 u70 u71 u72 u73 u74 u75 u76 u77 u78 u79 u80 u81 u82 u83 u84 u85 u86 u87 u88 u89 u90 u91 u92 u93 u94 u95 u96 u97 u98 u99 u100 u101 u102 u103 u104 u105 u106 u107 u108 u109 u110 u111 u112 u113 u114 u115 u116 u117 u118 u119 u120 u121 u122 u123 u124 u125 u126 u127 u128 u129 u130 u131 u132 u133 u134 u135 u136 u137 u138 u139 u140 u141 u142 u143 u144 u145 u146 u147 u148 u149 u150 u151 u152 u153 u154 u155 u156 u157 u158 u159 u160 u161 u162 u163 u164 u165 u166 u167 u168 u169 u170 u171 u172 u173 u174 u175 u176 u177 u178 u179 u180 u181 u182 u183 u184 u185 u186 u187 u188 u189 u190 u191 u192 u193 u194 u195 u196 u197 u198 u199 u200 u201 u202 u203 u204 u205 u206 u207 u208 u209 u210 u211 u212 u213 u214 u215 u216 u217 u218 u219 u220 u221 u222 u223 u224 u225 u226 u227 u228 u229 u230 u231 u232 u233 u234 u235 u236 u237 u238 u239 u240 u241 u242 u243 u244 u245 u246 u247 u248 u249 u250 u251 u252 u253 u254 u255 u256 u257 u258 u259 u260 u261 u262 u263 u264 u265 u266 u267 u268 u269 u270 u271 u272 u273 u274 u275 u276 u277 u278 u279 u280 u281 u282 u283 u284 u285 u286 u287 u288 u289 u290 u291 u292 u293 u294 u295 u296 u297 u298 u299 u300 u301 u302 u303 u304 u305 u306 u307 u308 : Value) (wc : World) (Q : Exit → Act → World → Prop)
    (hS : KN w p n0 f ds t gd cd gm cm r rv wc)
    (hQ : ∀ (x179 : Value)  (w1 : World), KN w p n0 f ds t gd cd gm cm r rv w1 → Q .normal ⟨#[.slice a0 n0 c0, .slice a1 n1 c1, .slice a2 n2 c2, .slice a3 n3 c3, .slice a4 n4 c4, u5, u6, u7, u8, u9, .bool false, u11, u12, u13, u14, u15, u16, u17, .pointer (some ⟨p, 0, none⟩), u19, u20, .slice (some ⟨gd, 0, none⟩) (r + 1) cd, .slice (some ⟨gm, 0, none⟩) (r + 1) cm, u23, u24, u25, u26, u27, .int .i64 ((t.log.length : Nat) : Int), u29, u30, u31, u32, u33, u34, u35, u36, u37, u38, u39, u40, u41, u42, u43, u44, u45, u46, u47, u48, u49, u50, u51, u52, u53, u54, u55, u56, u57, u58, u59, u60, u61, u62, u63, u64, u65, u66, u67, u68, u69, u70, u71, u72, u73, u74, u75, u76, u77, u78, u79, u80, u81, u82, u83, u84, u85, u86, u87, u88, u89, u90, u91, u92, u93, u94, u95, u96, u97, u98, u99, u100, u101, u102, u103, u104, u105, u106, u107, u108, u109, u110, u111, u112, u113, u114, u115, u116, u117, u118, u119, u120, u121, u122, u123, u124, u125, u126, u127, u128, u129, u130, u131, u132, u133, u134, u135, u136, u137, u138, u139, u140, u141, u142, u143, u144, u145, u146, u147, u148, u149, u150, u151, u152, u153, u154, u155, u156, u157, u158, u159, u160, u161, u162, u163, u164, u165, u166, u167, u168, u169, u170, u171, u172, u173, u174, u175, u176, u177, u178, x179, .int .i64 ((t.log.length : Nat) : Int), u181, u182, u183, u184, u185, u186, u187, u188, u189, u190, u191, u192, u193, u194, u195, u196, u197, u198, u199, u200, u201, u202, u203, u204, u205, u206, u207, u208, u209, u210, u211, u212, u213, u214, u215, u216, u217, u218, u219, u220, u221, u222, u223, u224, u225, u226, u227, u228, u229, u230, u231, u232, u233, u234, u235, u236, u237, u238, u239, u240, u241, u242, u243, u244, u245, u246, u247, u248, u249, u250, u251, u252, u253, u254, u255, u256, u257, u258, u259, u260, u261, u262, u263, u264, u265, u266, u267, u268, u269, u270, u271, u272, u273, u274, u275, u276, u277, u278, u279, u280, u281, u282, u283, u284, u285, u286, u287, u288, u289, u290, u291, u292, u293, u294, u295, u296, u297, u298, u299, u300, u301, u302, u303, u304, u305, u306, u307, u308], []⟩ w1) :
    Code.wp Tryd.prog (cut [1, 1, 1, 1, 1, 1, 1, 1, 1, 1, 1, 1, 1, 1, 1, 1, 0, 1, 2, 5, 1, 0, 2, 1, 0, 1, 2, 5, 1, 0, 2, 1, 1, 1, 0] (Tryd.f6.body.getD .skip)) Q ⟨#[.slice a0 n0 c0, .slice a1 n1 c1, .slice a2 n2 c2, .slice a3 n3 c3, .slice a4 n4 c4, u5, u6, u7, u8, u9, .bool false, u11, u12, u13, u14, u15, u16, u17, .pointer (some ⟨p, 0, none⟩), u19, u20, .slice (some ⟨gd, 0, none⟩) (r + 1) cd, .slice (some ⟨gm, 0, none⟩) (r + 1) cm, u23, u24, u25, u26, u27, u28, u29, u30, u31, u32, u33, u34, u35, u36, u37, u38, u39, u40, u41, u42, u43, u44, u45, u46, u47, u48, u49, u50, u51, u52, u53, u54, u55, u56, u57, u58, u59, u60, u61, u62, u63, u64, u65, u66, u67, u68, u69, u70, u71, u72, u73, u74, u75, u76, u77, u78, u79, u80, u81, u82, u83, u84, u85, u86, u87, u88, u89, u90, u91, u92, u93, u94, u95, u96, u97, u98, u99, u100, u101, u102, u103, u104, u105, u106, u107, u108, u109, u110, u111, u112, u113, u114, u115, u116, u117, u118, u119, u120, u121, u122, u123, u124, u125, u126, u127, u128, u129, u130, u131, u132, u133, u134, u135, u136, u137, u138, u139, u140, u141, u142, u143, u144, u145, u146, u147, u148, u149, u150, u151, u152, u153, u154, u155, u156, u157, u158, u159, u160, u161, u162, u163, u164, u165, u166, u167, u168, u169, u170, u171, u172, u173, u174, u175, u176, u177, u178, u179, u180, u181, u182, u183, u184, u185, u186, u187, u188, u189, u190, u191, u192, u193, u194, u195, u196, u197, u198, u199, u200, u201, u202, u203, u204, u205, u206, u207, u208, u209, u210, u211, u212, u213, u214, u215, u216, u217, u218, u219, u220, u221, u222, u223, u224, u225, u226, u227, u228, u229, u230, u231, u232, u233, u234, u235, u236, u237, u238, u239, u240, u241, u242, u243, u244, u245, u246, u247, u248, u249, u250, u251, u252, u253, u254, u255, u256, u257, u258, u259, u260, u261, u262, u263, u264, u265, u266, u267, u268, u269, u270, u271, u272, u273, u274, u275, u276, u277, u278, u279, u280, u281, u282, u283, u284, u285, u286, u287, u288, u289, u290, u291, u292, u293, u294, u295, u296, u297, u298, u299, u300, u301, u302, u303, u304, u305, u306, u307, u308], []⟩ wc := by
  conv => arg 2; whnf
  have HQ : Hid _ := hQ
  have HS : Hid (KN w p n0 f ds t gd cd gm cm r rv wc) := hS
  clear hQ

  have C := rl_bytes hS.1.rl
  clear hS
  go_wp2_with fail
  refine C.mono ?_
  rintro e w2 ⟨rfl, hw2⟩
  obtain rfl := hw2.symm
  clear C hw2
  go_wp2
  exact HQ.out _ _ HS.out

set_option linter.unusedVariables false in
set_option maxRecDepth 1000000 in
set_option maxHeartbeats 4000000 in
theorem k_put (n0 c0 n1 c1 n2 c2 n3 c3 n4 c4 p : Nat) (a0 a1 a2 a3 a4 : Option Addr) (w : World) (f : Nat → List El) (ds : List (List Wr)) (t : Rdo) (gd cd gm cm r : Nat) (rv : Nat → Value) (q : Nat) (L : Nat → List Wr) (u5 u6 u7 u8 u9 u11 u12 u13 u14 u15 u16 u17 u19 u20 u24 u25 u26 u27 u28 u29 u30 u31 u32 u33 u34 u35 u36 u37 u38 u39 u40 u41 u42 u43 u44 u45 u46 u47 u48 u49 u50 u51 u52 u53 u54 u55 u56 u57 u58 u59 u60 u61 u62 u63 u64 u65 u66 u67 u68 u69 u70 u71 u72 u73 u74 u75 u76 u77 u78 u79 u80 u81 u82 u83 u84 u85 u86 u87 u88 u89 u90 u91 u92 u93 u94 u95 u96 u97 u98 u99 u100 u101 u102 u103 u104 u105 u106 u107 u108 u109 u110 u111 u112 u113 u114 u115 u116 u117 u118 u119 u120 u121 u122 u123 u124 u125 u126 u127 u128 u129 u130 u131 u132 u133 u134 u135 u136 u137 u138 u139 u140 u141 u142 u143 u144 u145 u146 u147 u148 u149 u150 u151 u152 u153 u154 u155 u156 u157 u158 u159 u160 u161 u162 u163 u164 u165 u166 u167 u168 u169 u170 u171 u172 u173 u174 u175 u176 u177 u178 u179 u180 u181 u182 u183 u184 u185 u186 u187 u188 u189 u190 u191 u192 u193 u194 u195 u196 u197 u198 u199 u200 u201 u202 u203 u204 u205 u206 u207 u208 u209 u210 u211 u212 u213 u214 u215 u216 u217 u218 u219 u220 u221 u222 u223 u224 u225 u226 u227 u228 u229 u230 u231 u232 u233 u234 u235 u236 u237 u238 u239 u240 u241 u242 u243 u244 u245 u246 u247 u248 u249 u250 u251 u252 u253 u254 u255 u256 u257 u258 u259 u260 u261 u262 u263 u264 u265 u266 u267 u268 u269 u270 u271 u272 u273 u274 u275 u276 u277 u278 u279 u280 u281 u282 u283 u284 u285 u286 u287 u288 u289 u290 u291 u292 u293 u294 u295 u296 u297 u298 u299 u300 u301 u302 u303 u304 u305 u306 u307 u308 : Value) (wc : World) (Q : Exit → Act → World → Prop)
    (hS : KN w p n0 f ds t gd cd gm cm r rv wc) (hds : t.rs = ds) (r1 : RdWW w (.slice a1 n1 c1) n1 L) (hn1 : n1 ≤ 5864062014634) (hq : q < n1)
    (hQ : ∀ (x181 x182 x183 x184 x185 : Value)  (w1 : World), KN w p n0 f ds (t.put (L q)) gd cd gm cm r rv w1 → Q .normal ⟨#[.slice a0 n0 c0, .slice a1 n1 c1, .slice a2 n2 c2, .slice a3 n3 c3, .slice a4 n4 c4, u5, u6, u7, u8, u9, .bool false, u11, u12, u13, u14, u15, u16, u17, .pointer (some ⟨p, 0, none⟩), u19, u20, .slice (some ⟨gd, 0, none⟩) (r + 1) cd, .slice (some ⟨gm, 0, none⟩) (r + 1) cm, .int .i64 ((q : Nat) : Int), u24, u25, u26, u27, u28, errV (t.putE (L q)), u30, u31, u32, u33, u34, u35, u36, u37, u38, u39, u40, u41, u42, u43, u44, u45, u46, u47, u48, u49, u50, u51, u52, u53, u54, u55, u56, u57, u58, u59, u60, u61, u62, u63, u64, u65, u66, u67, u68, u69, u70, u71, u72, u73, u74, u75, u76, u77, u78, u79, u80, u81, u82, u83, u84, u85, u86, u87, u88, u89, u90, u91, u92, u93, u94, u95, u96, u97, u98, u99, u100, u101, u102, u103, u104, u105, u106, u107, u108, u109, u110, u111, u112, u113, u114, u115, u116, u117, u118, u119, u120, u121, u122, u123, u124, u125, u126, u127, u128, u129, u130, u131, u132, u133, u134, u135, u136, u137, u138, u139, u140, u141, u142, u143, u144, u145, u146, u147, u148, u149, u150, u151, u152, u153, u154, u155, u156, u157, u158, u159, u160, u161, u162, u163, u164, u165, u166, u167, u168, u169, u170, u171, u172, u173, u174, u175, u176, u177, u178, u179, u180, x181, x182, x183, x184, x185, errV (t.putE (L q)), u187, u188, u189, u190, u191, u192, u193, u194, u195, u196, u197, u198, u199, u200, u201, u202, u203, u204, u205, u206, u207, u208, u209, u210, u211, u212, u213, u214, u215, u216, u217, u218, u219, u220, u221, u222, u223, u224, u225, u226, u227, u228, u229, u230, u231, u232, u233, u234, u235, u236, u237, u238, u239, u240, u241, u242, u243, u244, u245, u246, u247, u248, u249, u250, u251, u252, u253, u254, u255, u256, u257, u258, u259, u260, u261, u262, u263, u264, u265, u266, u267, u268, u269, u270, u271, u272, u273, u274, u275, u276, u277, u278, u279, u280, u281, u282, u283, u284, u285, u286, u287, u288, u289, u290, u291, u292, u293, u294, u295, u296, u297, u298, u299, u300, u301, u302, u303, u304, u305, u306, u307, u308], []⟩ w1) :
    Code.wp Tryd.prog (cut [1, 1, 1, 1, 1, 1, 1, 1, 1, 1, 1, 1, 1, 1, 1, 1, 0, 1, 2, 5, 1, 0, 2, 1, 0, 1, 2, 5, 1, 0, 2, 1, 1, 1, 1, 0] (Tryd.f6.body.getD .skip)) Q ⟨#[.slice a0 n0 c0, .slice a1 n1 c1, .slice a2 n2 c2, .slice a3 n3 c3, .slice a4 n4 c4, u5, u6, u7, u8, u9, .bool false, u11, u12, u13, u14, u15, u16, u17, .pointer (some ⟨p, 0, none⟩), u19, u20, .slice (some ⟨gd, 0, none⟩) (r + 1) cd, .slice (some ⟨gm, 0, none⟩) (r + 1) cm, .int .i64 ((q : Nat) : Int), u24, u25, u26, u27, u28, u29, u30, u31, u32, u33, u34, u35, u36, u37, u38, u39, u40, u41, u42, u43, u44, u45, u46, u47, u48, u49, u50, u51, u52, u53, u54, u55, u56, u57, u58, u59, u60, u61, u62, u63, u64, u65, u66, u67, u68, u69, u70, u71, u72, u73, u74, u75, u76, u77, u78, u79, u80, u81, u82, u83, u84, u85, u86, u87, u88, u89, u90, u91, u92, u93, u94, u95, u96, u97, u98, u99, u100, u101, u102, u103, u104, u105, u106, u107, u108, u109, u110, u111, u112, u113, u114, u115, u116, u117, u118, u119, u120, u121, u122, u123, u124, u125, u126, u127, u128, u129, u130, u131, u132, u133, u134, u135, u136, u137, u138, u139, u140, u141, u142, u143, u144, u145, u146, u147, u148, u149, u150, u151, u152, u153, u154, u155, u156, u157, u158, u159, u160, u161, u162, u163, u164, u165, u166, u167, u168, u169, u170, u171, u172, u173, u174, u175, u176, u177, u178, u179, u180, u181, u182, u183, u184, u185, u186, u187, u188, u189, u190, u191, u192, u193, u194, u195, u196, u197, u198, u199, u200, u201, u202, u203, u204, u205, u206, u207, u208, u209, u210, u211, u212, u213, u214, u215, u216, u217, u218, u219, u220, u221, u222, u223, u224, u225, u226, u227, u228, u229, u230, u231, u232, u233, u234, u235, u236, u237, u238, u239, u240, u241, u242, u243, u244, u245, u246, u247, u248, u249, u250, u251, u252, u253, u254, u255, u256, u257, u258, u259, u260, u261, u262, u263, u264, u265, u266, u267, u268, u269, u270, u271, u272, u273, u274, u275, u276, u277, u278, u279, u280, u281, u282, u283, u284, u285, u286, u287, u288, u289, u290, u291, u292, u293, u294, u295, u296, u297, u298, u299, u300, u301, u302, u303, u304, u305, u306, u307, u308], []⟩ wc := by
  conv => arg 2; whnf
  have HQ : Hid _ := hQ
  have HS : Hid (KN w p n0 f ds t gd cd gm cm r rv wc) := hS
  clear hQ
  obtain ⟨rw1, hr1, hr2⟩ := r1
  obtain ⟨ad1, ha1, hc1⟩ := (hr1.old hS.1.low).at q hq
  subst ha1
  have hrw := (hr2 q hq).old hS.1.low
  have hqz : (q : Int) < (n1 : Int) := by omega
  obtain ⟨ao, cap', hrv, _, _⟩ := hrw.len
  rw [hrv] at hc1 hrw
  clear hr1 hr2 hrv

  have C := rl_put hS.1.rl hS.1.lt (by have := hS.2.1; have := hS.2.2; rw [hds]; omega) _ _ hrw
  have HX : Hid ((t.put (L q)).n = t.n ∧ (t.put (L q)).first = t.first) := by
    (show _ ∧ _)
    unfold Rdo.put
    split
    · exact ⟨rfl, rfl⟩
    · split
      · exact ⟨rfl, rfl⟩
      · exact ⟨rfl, rfl⟩
  clear hS
  go_wp2_with fail
  refine C.mono ?_
  rintro e w2 ⟨rfl, hR2, hk2⟩
  have HS2 : Hid (KN w p n0 f ds (t.put (L q)) gd cd gm cm r rv w2) := ⟨HS.out.1.call hR2 hk2 HX.out.1 HX.out.2, HS.out.2⟩
  clear C hR2 hk2
  go_wp2
  exact HQ.out _ _ _ _ _ _ HS2.out
end Go.Proofs.YtacfafbnimhibaaDoor
