/- IntentPlays, a piece: walks over the program. -/
import Derived.Test.YtacfafbnimhibaaDoorIPb
namespace Go.Proofs.YtacfafbnimhibaaDoor
open Go.RowKit Go.Maps
set_option linter.unusedVariables false in
set_option maxRecDepth 1000000 in
set_option maxHeartbeats 4000000 in
theorem p_tail (wide n1 c1 p b g : Nat) (a1 : Option Addr) (w : World) (k q N : Nat) (t : Itn) (u2 u3 u4 u5 u7 u12 u13 u14 u15 u16 u17 u18 u19 u20 u21 u22 u23 u24 u25 u26 u27 u28 u29 u30 u31 u32 u33 u34 u35 u36 u37 u38 u39 u40 u41 u42 u43 u44 u45 u46 u47 u48 u49 u50 u51 u52 u53 u54 u55 u56 u57 u58 u59 u60 u61 u62 u63 u64 u65 u66 u67 u68 u69 u70 u71 u72 u73 u74 u75 u76 u77 u78 u79 u80 u81 u82 u83 u84 u85 u86 u87 u88 u89 u90 u91 u92 u93 u94 u95 u96 u97 u98 u99 u100 u101 u102 u103 u104 u105 u106 u107 u108 u109 u110 u111 u112 u113 u114 u115 u116 u117 u118 u119 u120 u121 u122 u123 u124 u125 u126 u127 u128 u129 u130 u131 u132 u133 u134 u135 u136 u137 u138 u139 u140 u141 u142 u143 u144 u145 u146 u147 u148 u149 u150 u151 u152 u153 u154 u155 u156 u157 u158 u159 u160 u161 u162 u163 u164 u165 u166 u167 u168 u169 u170 u171 u172 u173 u174 u175 u176 u177 u178 u179 u180 u181 u182 u183 u184 u185 u186 u187 u188 u189 u190 u191 u192 u193 u194 u195 u196 u197 u198 u199 u200 u201 u202 u203 u204 u205 u206 u207 u208 u209 u210 u211 u212 u213 u214 u215 u216 u217 u218 : Value) (wc : World) (Q : Exit → Act → World → Prop)
    (hS : PX w p b g wide t N wc)
    (hQ : ∀ (x4 x20 x208 x209 x210 x211 x212 x213 x214 x215 x216 x217 x218 : Value)  (w1 : World), PX w p b g wide t N w1 → Q .normal ⟨#[.int .i64 wide, .slice a1 n1 c1, u2, u3, x4, u5, .pointer (some ⟨p, 0, none⟩), u7, .bool true, .pointer (some ⟨g, 0, none⟩), .int .i64 ((k : Nat) : Int), .pointer (some ⟨q, 0, none⟩), u12, u13, u14, u15, u16, u17, u18, u19, x20, u21, u22, u23, u24, u25, u26, u27, u28, u29, u30, u31, u32, u33, u34, u35, u36, u37, u38, u39, u40, u41, u42, u43, u44, u45, u46, u47, u48, u49, u50, u51, u52, u53, u54, u55, u56, u57, u58, u59, u60, u61, u62, u63, u64, u65, u66, u67, u68, u69, u70, u71, u72, u73, u74, u75, u76, u77, u78, u79, u80, u81, u82, u83, u84, u85, u86, u87, u88, u89, u90, u91, u92, u93, u94, u95, u96, u97, u98, u99, u100, u101, u102, u103, u104, u105, u106, u107, u108, u109, u110, u111, u112, u113, u114, u115, u116, u117, u118, u119, u120, u121, u122, u123, u124, u125, u126, u127, u128, u129, u130, u131, u132, u133, u134, u135, u136, u137, u138, u139, u140, u141, u142, u143, u144, u145, u146, u147, u148, u149, u150, u151, u152, u153, u154, u155, u156, u157, u158, u159, u160, u161, u162, u163, u164, u165, u166, u167, u168, u169, u170, u171, u172, u173, u174, u175, u176, u177, u178, u179, u180, u181, u182, u183, u184, u185, u186, u187, u188, u189, u190, u191, u192, u193, u194, u195, u196, u197, u198, u199, u200, u201, u202, u203, u204, u205, u206, u207, x208, x209, x210, x211, x212, x213, x214, x215, x216, x217, x218], []⟩ w1) :
    Code.wp Tryd.prog (cut [1, 1, 1, 1, 1, 1, 1, 0, 1, 2, 5, 1, 0, 2, 1, 1, 1, 1, 1, 1] (Tryd.f3.body.getD .skip)) Q ⟨#[.int .i64 wide, .slice a1 n1 c1, u2, u3, u4, u5, .pointer (some ⟨p, 0, none⟩), u7, .bool true, .pointer (some ⟨g, 0, none⟩), .int .i64 ((k : Nat) : Int), .pointer (some ⟨q, 0, none⟩), u12, u13, u14, u15, u16, u17, u18, u19, u20, u21, u22, u23, u24, u25, u26, u27, u28, u29, u30, u31, u32, u33, u34, u35, u36, u37, u38, u39, u40, u41, u42, u43, u44, u45, u46, u47, u48, u49, u50, u51, u52, u53, u54, u55, u56, u57, u58, u59, u60, u61, u62, u63, u64, u65, u66, u67, u68, u69, u70, u71, u72, u73, u74, u75, u76, u77, u78, u79, u80, u81, u82, u83, u84, u85, u86, u87, u88, u89, u90, u91, u92, u93, u94, u95, u96, u97, u98, u99, u100, u101, u102, u103, u104, u105, u106, u107, u108, u109, u110, u111, u112, u113, u114, u115, u116, u117, u118, u119, u120, u121, u122, u123, u124, u125, u126, u127, u128, u129, u130, u131, u132, u133, u134, u135, u136, u137, u138, u139, u140, u141, u142, u143, u144, u145, u146, u147, u148, u149, u150, u151, u152, u153, u154, u155, u156, u157, u158, u159, u160, u161, u162, u163, u164, u165, u166, u167, u168, u169, u170, u171, u172, u173, u174, u175, u176, u177, u178, u179, u180, u181, u182, u183, u184, u185, u186, u187, u188, u189, u190, u191, u192, u193, u194, u195, u196, u197, u198, u199, u200, u201, u202, u203, u204, u205, u206, u207, u208, u209, u210, u211, u212, u213, u214, u215, u216, u217, u218], []⟩ wc := by
  conv => arg 2; whnf
  have HQ : Hid _ := hQ
  clear hQ
  have HS1 : Hid (PX w p b g wide t N wc) := hS
  have C := idirty hS.1.il.int
  clear hS
  go_wp2_with fail
  refine C.mono ?_
  rintro e w2 ⟨v2, rfl, hO2, hB2⟩
  have HS2 : Hid (PX w p b g wide t N w2) := ⟨HS1.out.1.old hB2, HS1.out.2⟩
  have HO2 : Hid (RdN w2 v2 t.list) := hO2.rd
  have R := rlist HS2.out.1.doc
  clear C hO2 hB2 HS1
  go_wp2_with fail
  refine R.mono ?_
  rintro e w3 ⟨v3, rfl, hO3, hB3⟩
  have HS3 : Hid (PX w p b g wide t N w3) := ⟨HS2.out.1.old hB3, HS2.out.2⟩
  have I3 := ints_same v2 v3 t.list.length (fun i => ((t.list.getD i 0 : Nat) : Int)) w3 (HO2.out.old hB3) hO3.rd
  clear R hO3 hB3 HS2 HO2
  go_wp2_with fail
  refine I3.mono ?_
  rintro e w4 ⟨rfl, hB4⟩
  have HS4 : Hid (PX w p b g wide t N w4) := ⟨HS3.out.1.old hB4, HS3.out.2⟩
  clear I3 hB4 HS3
  go_wp2
  exact HQ.out _ _ _ _ _ _ _ _ _ _ _ _ _ _ HS4.out
end Go.Proofs.YtacfafbnimhibaaDoor
