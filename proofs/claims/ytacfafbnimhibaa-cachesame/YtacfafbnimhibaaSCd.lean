/- CacheSame, a piece: walks over the program. -/
import Derived.Test.YtacfafbnimhibaaSCb
namespace Go.Proofs.Ytacfafbnimhibaa
open Go.RowKit Go.Maps El Pol
set_option linter.unusedVariables false in
set_option maxRecDepth 1000000 in
set_option maxHeartbeats 4000000 in
theorem s_flush (n0 c0 R n2 c2 n3 c3 cn : Nat) (a0 a2 a3 an : Option Addr) (x : CP) (w : World) (k q N : Nat) (c : Che) (v : Nat → Int) (S3 : Nat → List El) (u4 u5 u6 u7 u8 u9 u10 u11 u12 u14 u18 u19 u20 u21 u22 u23 u24 u25 u26 u27 u28 u29 u30 u31 u32 u33 u34 u35 u36 u37 u38 u39 u40 u41 u42 u43 u44 u45 u46 u47 u48 u49 u50 u51 u52 u53 u54 u55 u56 u57 u58 u59 u60 u61 u62 u63 u64 u65 u66 u67 u68 u69 u70 u71 u72 u73 u74 u75 u76 u77 u78 u79 u80 u81 u82 u83 u84 u85 u86 u87 u88 u89 u90 u91 u92 u93 u94 u95 u96 u97 u98 u99 u100 u101 u102 u103 u104 u105 u106 u107 u108 u109 u110 u111 u112 u113 u114 u115 u116 u117 u118 u119 u120 u121 u122 u123 u124 u125 u126 u127 u128 u129 u130 u131 u132 u133 u134 u135 u136 u137 u138 u139 u140 u141 u142 u143 u144 u145 u146 u147 u148 u149 u150 u151 u152 u153 u154 u155 u156 u157 u158 u159 u160 u161 u162 u163 u164 u165 u166 u167 u168 u169 u170 u171 u172 u173 u174 u175 u176 u177 u178 u179 u180 u181 u182 u183 u184 u185 u186 u187 u188 u189 u190 u191 u192 u193 u194 u195 u196 u197 u198 u199 u200 u201 u202 u203 u204 u205 u206 u207 u208 u209 u210 u211 u212 u213 u214 u215 u216 u217 u218 u219 u220 u221 u222 u223 u224 u225 u226 u227 u228 u229 u230 u231 u232 u233 u234 u235 u236 u237 u238 u239 u240 u241 u242 u243 u244 u245 u246 u247 u248 u249 u250 u251 u252 u253 u254 u255 u256 u257 u258 u259 u260 u261 u262 u263 : Value) (wc : World) (Q : Exit → Act → World → Prop)
    (hN : N ≤ 900) (hk80 : k < 80) (r4 : RdT w (.slice a3 n3 c3) n3 S3) (hS : CW w x an cn n0 R c N wc) (hV : VN w (WF x an cn n0) q 2 wc v) (h0 : v 0 = 4)
    (hQ : ∀ (x8 x19 x20 x21 x110 x111 x112 x113 x114 x115 x116 x117 x118 x119 x120 x121 x122 x123 x124 x125 x126 x127 x128 x129 x130 x131 x132 x133 x134 x135 x136 x137 x138 x139 x140 x141 x142 x143 x144 x145 x146 x147 x148 x149 x150 x151 x152 x153 x154 x155 x156 x157 x158 x159 x160 x161 x162 x163 x164 x165 x166 x167 x168 x169 x170 x171 x172 x173 x174 x175 x176 x177 x178 x179 x180 x181 : Value) (c' : Che) (N' : Nat) (w1 : World), CW w x an cn n0 R c' N' w1 → N' ≤ N + 2 → Q .normal ⟨#[.slice a0 n0 c0, .int .i64 ((R : Nat) : Int), .slice a2 n2 c2, .slice a3 n3 c3, u4, u5, u6, u7, x8, u9, u10, u11, u12, .pointer (some ⟨x.p, 0, none⟩), u14, .slice an n0 cn, .int .i64 ((k : Nat) : Int), .pointer (some ⟨q, 0, none⟩), u18, x19, x20, x21, u22, u23, u24, u25, u26, u27, u28, u29, u30, u31, u32, u33, u34, u35, u36, u37, u38, u39, u40, u41, u42, u43, u44, u45, u46, u47, u48, u49, u50, u51, u52, u53, u54, u55, u56, u57, u58, u59, u60, u61, u62, u63, u64, u65, u66, u67, u68, u69, u70, u71, u72, u73, u74, u75, u76, u77, u78, u79, u80, u81, u82, u83, u84, u85, u86, u87, u88, u89, u90, u91, u92, u93, u94, u95, u96, u97, u98, u99, u100, u101, u102, u103, u104, u105, u106, u107, u108, u109, x110, x111, x112, x113, x114, x115, x116, x117, x118, x119, x120, x121, x122, x123, x124, x125, x126, x127, x128, x129, x130, x131, x132, x133, x134, x135, x136, x137, x138, x139, x140, x141, x142, x143, x144, x145, x146, x147, x148, x149, x150, x151, x152, x153, x154, x155, x156, x157, x158, x159, x160, x161, x162, x163, x164, x165, x166, x167, x168, x169, x170, x171, x172, x173, x174, x175, x176, x177, x178, x179, x180, x181, u182, u183, u184, u185, u186, u187, u188, u189, u190, u191, u192, u193, u194, u195, u196, u197, u198, u199, u200, u201, u202, u203, u204, u205, u206, u207, u208, u209, u210, u211, u212, u213, u214, u215, u216, u217, u218, u219, u220, u221, u222, u223, u224, u225, u226, u227, u228, u229, u230, u231, u232, u233, u234, u235, u236, u237, u238, u239, u240, u241, u242, u243, u244, u245, u246, u247, u248, u249, u250, u251, u252, u253, u254, u255, u256, u257, u258, u259, u260, u261, u262, u263], []⟩ w1) :
    Code.wp Try.prog (cut [1, 1, 1, 1, 1, 1, 1, 1, 1, 1, 0, 1, 2, 5, 1, 0, 2, 1, 1, 0] (Try.f4.body.getD .skip)) Q ⟨#[.slice a0 n0 c0, .int .i64 ((R : Nat) : Int), .slice a2 n2 c2, .slice a3 n3 c3, u4, u5, u6, u7, u8, u9, u10, u11, u12, .pointer (some ⟨x.p, 0, none⟩), u14, .slice an n0 cn, .int .i64 ((k : Nat) : Int), .pointer (some ⟨q, 0, none⟩), u18, u19, u20, u21, u22, u23, u24, u25, u26, u27, u28, u29, u30, u31, u32, u33, u34, u35, u36, u37, u38, u39, u40, u41, u42, u43, u44, u45, u46, u47, u48, u49, u50, u51, u52, u53, u54, u55, u56, u57, u58, u59, u60, u61, u62, u63, u64, u65, u66, u67, u68, u69, u70, u71, u72, u73, u74, u75, u76, u77, u78, u79, u80, u81, u82, u83, u84, u85, u86, u87, u88, u89, u90, u91, u92, u93, u94, u95, u96, u97, u98, u99, u100, u101, u102, u103, u104, u105, u106, u107, u108, u109, u110, u111, u112, u113, u114, u115, u116, u117, u118, u119, u120, u121, u122, u123, u124, u125, u126, u127, u128, u129, u130, u131, u132, u133, u134, u135, u136, u137, u138, u139, u140, u141, u142, u143, u144, u145, u146, u147, u148, u149, u150, u151, u152, u153, u154, u155, u156, u157, u158, u159, u160, u161, u162, u163, u164, u165, u166, u167, u168, u169, u170, u171, u172, u173, u174, u175, u176, u177, u178, u179, u180, u181, u182, u183, u184, u185, u186, u187, u188, u189, u190, u191, u192, u193, u194, u195, u196, u197, u198, u199, u200, u201, u202, u203, u204, u205, u206, u207, u208, u209, u210, u211, u212, u213, u214, u215, u216, u217, u218, u219, u220, u221, u222, u223, u224, u225, u226, u227, u228, u229, u230, u231, u232, u233, u234, u235, u236, u237, u238, u239, u240, u241, u242, u243, u244, u245, u246, u247, u248, u249, u250, u251, u252, u253, u254, u255, u256, u257, u258, u259, u260, u261, u262, u263], []⟩ wc := by
  conv => arg 2; whnf
  have k0 := hV.at 0 (by omega)
  have k1 := hV.at 1 (by omega)
  have HQ : Hid _ := hQ
  have HS : Hid (CW w x an cn n0 R c N wc) := hS
  have HV : Hid (VN w (WF x an cn n0) q 2 wc v) := hV
  have hn40 : n0 ≤ 40 := by rw [← hS.hn]; exact hS.mc.ok.n40
  clear hQ hS hV
  rw [h0] at k0
  clear h0

  by_cases hneg : v 1 < 0
  · have C := cflush_no x.p hneg wc
    rw [errV, if_neg (by omega)] at C
    generalize v 1 = z at *
    clear r4
    go_wp2_with fail
    refine C.mono ?_
    rintro e w2 ⟨rfl, hw2⟩
    obtain rfl := hw2.symm
    clear C hw2
    go_wp2
    exact HQ.out _ _ _ _ _ _ _ _ _ _ _ _ _ _ _ _ _ _ _ _ _ _ _ _ _ _ _ _ _ _ _ _ _ _ _ _ _ _ _ _ _ _ _ _ _ _ _ _ _ _ _ _ _ _ _ _ _ _ _ _ _ _ _ _ _ _ _ _ _ _ _ _ _ _ _ _ _ _ _ HS.out (Nat.le_add_right _ _)
  · obtain ⟨m, hm⟩ : ∃ m : Nat, v 1 = (m : Int) := ⟨(v 1).toNat, by omega⟩
    have C := cflush_ok HS.out.mc m
    rw [errV, if_pos rfl] at C
    rw [hm] at k1
    clear hneg hm r4
    go_wp2_with fail
    refine C.mono ?_
    rintro e w2 ⟨vf, rfl, _, _, hM2, hb2⟩
    have HS2 : Hid (CW w x an cn n0 R (c.flush m) N w2) := HS.out.on hM2 hb2 (Che.now_flush HS.out.mc.ok m) rfl rfl
    clear C hM2 hb2 HS HV
    go_wp2
    exact HQ.out _ _ _ _ _ _ _ _ _ _ _ _ _ _ _ _ _ _ _ _ _ _ _ _ _ _ _ _ _ _ _ _ _ _ _ _ _ _ _ _ _ _ _ _ _ _ _ _ _ _ _ _ _ _ _ _ _ _ _ _ _ _ _ _ _ _ _ _ _ _ _ _ _ _ _ _ _ _ _ HS2.out (Nat.le_add_right _ _)

set_option linter.unusedVariables false in
set_option maxRecDepth 1000000 in
set_option maxHeartbeats 4000000 in
theorem s_read (n0 c0 R n2 c2 n3 c3 cn : Nat) (a0 a2 a3 an : Option Addr) (x : CP) (w : World) (k q N : Nat) (c : Che) (v : Nat → Int) (S3 : Nat → List El) (u4 u5 u6 u7 u8 u9 u10 u11 u12 u14 u18 u19 u20 u21 u22 u23 u24 u25 u26 u27 u28 u29 u30 u31 u32 u33 u34 u35 u36 u37 u38 u39 u40 u41 u42 u43 u44 u45 u46 u47 u48 u49 u50 u51 u52 u53 u54 u55 u56 u57 u58 u59 u60 u61 u62 u63 u64 u65 u66 u67 u68 u69 u70 u71 u72 u73 u74 u75 u76 u77 u78 u79 u80 u81 u82 u83 u84 u85 u86 u87 u88 u89 u90 u91 u92 u93 u94 u95 u96 u97 u98 u99 u100 u101 u102 u103 u104 u105 u106 u107 u108 u109 u110 u111 u112 u113 u114 u115 u116 u117 u118 u119 u120 u121 u122 u123 u124 u125 u126 u127 u128 u129 u130 u131 u132 u133 u134 u135 u136 u137 u138 u139 u140 u141 u142 u143 u144 u145 u146 u147 u148 u149 u150 u151 u152 u153 u154 u155 u156 u157 u158 u159 u160 u161 u162 u163 u164 u165 u166 u167 u168 u169 u170 u171 u172 u173 u174 u175 u176 u177 u178 u179 u180 u181 u182 u183 u184 u185 u186 u187 u188 u189 u190 u191 u192 u193 u194 u195 u196 u197 u198 u199 u200 u201 u202 u203 u204 u205 u206 u207 u208 u209 u210 u211 u212 u213 u214 u215 u216 u217 u218 u219 u220 u221 u222 u223 u224 u225 u226 u227 u228 u229 u230 u231 u232 u233 u234 u235 u236 u237 u238 u239 u240 u241 u242 u243 u244 u245 u246 u247 u248 u249 u250 u251 u252 u253 u254 u255 u256 u257 u258 u259 u260 u261 u262 u263 : Value) (wc : World) (Q : Exit → Act → World → Prop)
    (hN : N ≤ 900) (hk80 : k < 80) (r4 : RdT w (.slice a3 n3 c3) n3 S3) (hS : CW w x an cn n0 R c N wc) (hV : VN w (WF x an cn n0) q 2 wc v) (h0 : v 0 ≠ 2 ∧ v 0 ≠ 3 ∧ v 0 ≠ 4)
    (hQ : ∀ (x8 x19 x20 x21 x110 x111 x112 x113 x114 x115 x116 x117 x118 x119 x120 x121 x122 x123 x124 x125 x126 x127 x128 x129 x130 x131 x132 x133 x134 x135 x136 x137 x138 x139 x140 x141 x142 x143 x144 x145 x146 x147 x148 x149 x150 x151 x152 x153 x154 x155 x156 x157 x158 x159 x160 x161 x162 x163 x164 x165 x166 x167 x168 x169 x170 x171 x172 x173 x174 x175 x176 x177 x178 x179 x180 x181 : Value) (c' : Che) (N' : Nat) (w1 : World), CW w x an cn n0 R c' N' w1 → N' ≤ N + 2 → Q .normal ⟨#[.slice a0 n0 c0, .int .i64 ((R : Nat) : Int), .slice a2 n2 c2, .slice a3 n3 c3, u4, u5, u6, u7, x8, u9, u10, u11, u12, .pointer (some ⟨x.p, 0, none⟩), u14, .slice an n0 cn, .int .i64 ((k : Nat) : Int), .pointer (some ⟨q, 0, none⟩), u18, x19, x20, x21, u22, u23, u24, u25, u26, u27, u28, u29, u30, u31, u32, u33, u34, u35, u36, u37, u38, u39, u40, u41, u42, u43, u44, u45, u46, u47, u48, u49, u50, u51, u52, u53, u54, u55, u56, u57, u58, u59, u60, u61, u62, u63, u64, u65, u66, u67, u68, u69, u70, u71, u72, u73, u74, u75, u76, u77, u78, u79, u80, u81, u82, u83, u84, u85, u86, u87, u88, u89, u90, u91, u92, u93, u94, u95, u96, u97, u98, u99, u100, u101, u102, u103, u104, u105, u106, u107, u108, u109, x110, x111, x112, x113, x114, x115, x116, x117, x118, x119, x120, x121, x122, x123, x124, x125, x126, x127, x128, x129, x130, x131, x132, x133, x134, x135, x136, x137, x138, x139, x140, x141, x142, x143, x144, x145, x146, x147, x148, x149, x150, x151, x152, x153, x154, x155, x156, x157, x158, x159, x160, x161, x162, x163, x164, x165, x166, x167, x168, x169, x170, x171, x172, x173, x174, x175, x176, x177, x178, x179, x180, x181, u182, u183, u184, u185, u186, u187, u188, u189, u190, u191, u192, u193, u194, u195, u196, u197, u198, u199, u200, u201, u202, u203, u204, u205, u206, u207, u208, u209, u210, u211, u212, u213, u214, u215, u216, u217, u218, u219, u220, u221, u222, u223, u224, u225, u226, u227, u228, u229, u230, u231, u232, u233, u234, u235, u236, u237, u238, u239, u240, u241, u242, u243, u244, u245, u246, u247, u248, u249, u250, u251, u252, u253, u254, u255, u256, u257, u258, u259, u260, u261, u262, u263], []⟩ w1) :
    Code.wp Try.prog (cut [1, 1, 1, 1, 1, 1, 1, 1, 1, 1, 0, 1, 2, 5, 1, 0, 2, 1, 1, 0] (Try.f4.body.getD .skip)) Q ⟨#[.slice a0 n0 c0, .int .i64 ((R : Nat) : Int), .slice a2 n2 c2, .slice a3 n3 c3, u4, u5, u6, u7, u8, u9, u10, u11, u12, .pointer (some ⟨x.p, 0, none⟩), u14, .slice an n0 cn, .int .i64 ((k : Nat) : Int), .pointer (some ⟨q, 0, none⟩), u18, u19, u20, u21, u22, u23, u24, u25, u26, u27, u28, u29, u30, u31, u32, u33, u34, u35, u36, u37, u38, u39, u40, u41, u42, u43, u44, u45, u46, u47, u48, u49, u50, u51, u52, u53, u54, u55, u56, u57, u58, u59, u60, u61, u62, u63, u64, u65, u66, u67, u68, u69, u70, u71, u72, u73, u74, u75, u76, u77, u78, u79, u80, u81, u82, u83, u84, u85, u86, u87, u88, u89, u90, u91, u92, u93, u94, u95, u96, u97, u98, u99, u100, u101, u102, u103, u104, u105, u106, u107, u108, u109, u110, u111, u112, u113, u114, u115, u116, u117, u118, u119, u120, u121, u122, u123, u124, u125, u126, u127, u128, u129, u130, u131, u132, u133, u134, u135, u136, u137, u138, u139, u140, u141, u142, u143, u144, u145, u146, u147, u148, u149, u150, u151, u152, u153, u154, u155, u156, u157, u158, u159, u160, u161, u162, u163, u164, u165, u166, u167, u168, u169, u170, u171, u172, u173, u174, u175, u176, u177, u178, u179, u180, u181, u182, u183, u184, u185, u186, u187, u188, u189, u190, u191, u192, u193, u194, u195, u196, u197, u198, u199, u200, u201, u202, u203, u204, u205, u206, u207, u208, u209, u210, u211, u212, u213, u214, u215, u216, u217, u218, u219, u220, u221, u222, u223, u224, u225, u226, u227, u228, u229, u230, u231, u232, u233, u234, u235, u236, u237, u238, u239, u240, u241, u242, u243, u244, u245, u246, u247, u248, u249, u250, u251, u252, u253, u254, u255, u256, u257, u258, u259, u260, u261, u262, u263], []⟩ wc := by
  conv => arg 2; whnf
  have k0 := hV.at 0 (by omega)
  have k1 := hV.at 1 (by omega)
  have HQ : Hid _ := hQ
  have HS : Hid (CW w x an cn n0 R c N wc) := hS
  have HV : Hid (VN w (WF x an cn n0) q 2 wc v) := hV
  have hn40 : n0 ≤ 40 := by rw [← hS.hn]; exact hS.mc.ok.n40
  clear hQ hS hV
  generalize v 0 = y0 at k0 h0
  obtain ⟨p0, p1, p2⟩ := h0
  have e0 : (y0 == 2) = false := by rw [beq_eq_false_iff_ne]; exact p0
  have e1 : (y0 == 3) = false := by rw [beq_eq_false_iff_ne]; exact p1
  have e2 : (y0 == 4) = false := by rw [beq_eq_false_iff_ne]; exact p2
  clear p0 p1 p2

  by_cases hno : noCell c.n (v 1)
  · have C := cread_no HS.out.mc hno
    rw [errV, if_neg (by omega)] at C
    unfold st at C
    generalize v 1 = z at *
    generalize sb [] = s0 at *
    clear r4 hno
    go_wp2_with fail
    refine C.mono ?_
    rintro e w2 ⟨rfl, hw2⟩
    obtain rfl := hw2.symm
    clear C hw2
    go_wp2
    exact HQ.out _ _ _ _ _ _ _ _ _ _ _ _ _ _ _ _ _ _ _ _ _ _ _ _ _ _ _ _ _ _ _ _ _ _ _ _ _ _ _ _ _ _ _ _ _ _ _ _ _ _ _ _ _ _ _ _ _ _ _ _ _ _ _ _ _ _ _ _ _ _ _ _ _ _ _ _ _ _ _ HS.out (Nat.le_add_right _ _)
  · obtain ⟨m, hm, hmn⟩ : ∃ m : Nat, v 1 = (m : Int) ∧ m < n0 := by
      unfold noCell at hno
      rw [HS.out.hn] at hno
      exact ⟨(v 1).toNat, by omega, by omega⟩
    have HM : Hid (v 1 = (m : Int)) := hm
    have C := cread_ok HS.out.mc (by omega) (i := m) (by rw [HS.out.hn]; exact hmn)
    obtain ⟨g, cap, han, _, _, _, _⟩ := OwT.at HS.out.nw (by omega)
    simp only [Value.slice.injEq] at han
    obtain ⟨rfl, _, rfl⟩ := han
    rw [errV, if_pos rfl] at C
    unfold st at C
    rw [hm] at k1
    have HNow : Hid (∀ w2, But x.F wc w2 → w2.cell? ⟨g, m, none⟩ = some (.string (sb (c.now m)))) := fun w2 hb => OwT.cell (ownsRow_but HS.out.nw hb (fun k hk => HS.out.ap k hk)) m hmn
    clear hno hm r4
    generalize sb (c.now m) = sx at *
    go_wp2_with fail
    refine C.mono ?_
    rintro e w2 ⟨rfl, hM2, hb2⟩
    have d1 := (HV.out.but hb2 (fun _ h => .inl h)).at 1 (by omega)
    rw [HM.out] at d1
    have g1 := HNow.out w2 hb2
    have HS2 : Hid (CW w x (some ⟨g, 0, none⟩) cn n0 R (c.read m) (N + 1) w2) := HS.out.on hM2 hb2 (Che.now_read HS.out.mc.ok m) (read_nr HS.out.mc.ok m).1 (read_nr HS.out.mc.ok m).2
    have hmz : (m : Int) < (n0 : Int) := by omega
    clear C hM2 hb2 HS HV k0 k1 HNow
    go_wp2
    exact HQ.out _ _ _ _ _ _ _ _ _ _ _ _ _ _ _ _ _ _ _ _ _ _ _ _ _ _ _ _ _ _ _ _ _ _ _ _ _ _ _ _ _ _ _ _ _ _ _ _ _ _ _ _ _ _ _ _ _ _ _ _ _ _ _ _ _ _ _ _ _ _ _ _ _ _ _ _ _ _ _ HS2.out (by omega)
end Go.Proofs.Ytacfafbnimhibaa
