/- ReservePlays, a piece: walks over the program. -/
import Derived.Test.YtfeikmmojilmbaaDoorRPb
namespace Go.Proofs.YtfeikmmojilmbaaDoor
open Go.RowKit
set_option linter.unusedVariables false in
set_option maxRecDepth 1000000 in
set_option maxHeartbeats 4000000 in
theorem r_same (n1 c1 p g : Nat) (a1 : Option Addr) (w : World) (k q cap : Nat) (ao : Option Addr) (t : Rsv) (u1 u2 u7 u9 u10 u11 u12 u13 u14 u15 u16 u17 u19 u22 u23 u24 u25 u26 u27 u28 u29 u30 u31 u32 u33 u34 u35 u36 u37 u38 u39 u40 u41 u42 u43 u44 u45 u46 u47 u48 u49 u50 u51 u52 u53 u54 u55 u56 u57 u58 u59 u60 u61 u62 u63 u64 u65 u66 u67 u68 u69 u70 u71 u72 u73 u74 u75 u76 u77 u78 u79 u80 u81 u82 u83 u84 u85 u86 u87 u88 u89 u90 u91 u92 u93 u94 u95 u96 u97 u98 u99 u100 u101 u102 u103 u104 u105 u106 u107 u108 u109 u110 u111 u112 u113 u114 u115 u116 u117 u118 u119 u120 u121 u122 u123 u124 u125 u126 u127 u128 u129 u130 u131 u132 u133 u134 u135 u136 u137 u138 u139 u140 u141 u142 u143 u144 u145 u146 u147 u148 u149 u150 u151 u152 u153 u154 u155 u156 u157 u158 u159 u160 u161 u162 u163 u164 u165 u166 u167 u168 u169 u170 u171 u172 u173 u174 u175 u176 u177 u178 u179 u180 u181 u182 u183 u184 u185 u186 u187 u188 u189 u190 u191 u192 u193 u194 u195 u196 u197 u198 u199 u200 u201 u202 u203 u204 u205 u206 u207 u208 u209 u210 u211 u212 u213 u214 u215 u216 u217 u218 u219 u220 u221 u222 u223 u224 u225 u226 u227 u228 u229 u230 u231 u232 u233 u234 u235 u236 u237 u238 u239 u240 : Value) (wc : World) (Q : Exit → Act → World → Prop)
    (hS : WL w p g t t wc) (hR : RdF wc (.slice ao 9 cap) 9 (fun j => vi (t.key (j + 1))))
    (hQ : ∀ (x2 x215 x216 x217 x218 x219 x220 x221 x222 x223 x224 x225 x226 x227 x228 x229 x230 x231 x232 x233 x234 x235 x236 x237 x238 x239 x240 : Value)  (w1 : World), WL w p g t t w1 → Q .normal ⟨#[.slice a1 n1 c1, u1, x2, .pointer (some ⟨p, 0, none⟩), .pointer (some ⟨g, 0, none⟩), .int .i64 ((k : Nat) : Int), .pointer (some ⟨q, 0, none⟩), u7, .bool true, u9, u10, u11, u12, u13, u14, u15, u16, u17, .bool true, u19, .bool true, .slice ao 9 cap, u22, u23, u24, u25, u26, u27, u28, u29, u30, u31, u32, u33, u34, u35, u36, u37, u38, u39, u40, u41, u42, u43, u44, u45, u46, u47, u48, u49, u50, u51, u52, u53, u54, u55, u56, u57, u58, u59, u60, u61, u62, u63, u64, u65, u66, u67, u68, u69, u70, u71, u72, u73, u74, u75, u76, u77, u78, u79, u80, u81, u82, u83, u84, u85, u86, u87, u88, u89, u90, u91, u92, u93, u94, u95, u96, u97, u98, u99, u100, u101, u102, u103, u104, u105, u106, u107, u108, u109, u110, u111, u112, u113, u114, u115, u116, u117, u118, u119, u120, u121, u122, u123, u124, u125, u126, u127, u128, u129, u130, u131, u132, u133, u134, u135, u136, u137, u138, u139, u140, u141, u142, u143, u144, u145, u146, u147, u148, u149, u150, u151, u152, u153, u154, u155, u156, u157, u158, u159, u160, u161, u162, u163, u164, u165, u166, u167, u168, u169, u170, u171, u172, u173, u174, u175, u176, u177, u178, u179, u180, u181, u182, u183, u184, u185, u186, u187, u188, u189, u190, u191, u192, u193, u194, u195, u196, u197, u198, u199, u200, u201, u202, u203, u204, u205, u206, u207, u208, u209, u210, u211, u212, u213, u214, x215, x216, x217, x218, x219, x220, x221, x222, x223, x224, x225, x226, x227, x228, x229, x230, x231, x232, x233, x234, x235, x236, x237, x238, x239, x240], []⟩ w1) :
    Code.wp Tryd.prog (cut [1, 1, 1, 0, 1, 2, 5, 1, 0, 2, 1, 1, 1, 1, 1, 1, 1, 1, 1, 1, 1, 1, 1, 1] (Tryd.f4.body.getD .skip)) Q ⟨#[.slice a1 n1 c1, u1, u2, .pointer (some ⟨p, 0, none⟩), .pointer (some ⟨g, 0, none⟩), .int .i64 ((k : Nat) : Int), .pointer (some ⟨q, 0, none⟩), u7, .bool true, u9, u10, u11, u12, u13, u14, u15, u16, u17, .bool true, u19, .bool true, .slice ao 9 cap, u22, u23, u24, u25, u26, u27, u28, u29, u30, u31, u32, u33, u34, u35, u36, u37, u38, u39, u40, u41, u42, u43, u44, u45, u46, u47, u48, u49, u50, u51, u52, u53, u54, u55, u56, u57, u58, u59, u60, u61, u62, u63, u64, u65, u66, u67, u68, u69, u70, u71, u72, u73, u74, u75, u76, u77, u78, u79, u80, u81, u82, u83, u84, u85, u86, u87, u88, u89, u90, u91, u92, u93, u94, u95, u96, u97, u98, u99, u100, u101, u102, u103, u104, u105, u106, u107, u108, u109, u110, u111, u112, u113, u114, u115, u116, u117, u118, u119, u120, u121, u122, u123, u124, u125, u126, u127, u128, u129, u130, u131, u132, u133, u134, u135, u136, u137, u138, u139, u140, u141, u142, u143, u144, u145, u146, u147, u148, u149, u150, u151, u152, u153, u154, u155, u156, u157, u158, u159, u160, u161, u162, u163, u164, u165, u166, u167, u168, u169, u170, u171, u172, u173, u174, u175, u176, u177, u178, u179, u180, u181, u182, u183, u184, u185, u186, u187, u188, u189, u190, u191, u192, u193, u194, u195, u196, u197, u198, u199, u200, u201, u202, u203, u204, u205, u206, u207, u208, u209, u210, u211, u212, u213, u214, u215, u216, u217, u218, u219, u220, u221, u222, u223, u224, u225, u226, u227, u228, u229, u230, u231, u232, u233, u234, u235, u236, u237, u238, u239, u240], []⟩ wc := by
  conv => arg 2; whnf
  have HQ : Hid _ := hQ
  have HS : Hid (WL w p g t t wc) := hS
  have HR : Hid (RdF wc (.slice ao 9 cap) 9 (fun j => vi (t.key (j + 1)))) := hR
  have hb0 := below_dr wc
  have S0 := (hS.old hb0).cells
  have HC : Hid (∀ W, Below wc.heap.size wc W → W.cell? ⟨g, 10, none⟩ = some (.int .i64 t.host) ∧ W.cell? ⟨g, 11, none⟩ = some (.int .i64 t.kind)) := fun W hb => (HS.out.old hb).cells
  have H1 : Hid (∀ W, Below wc.heap.size wc W → Calls Tryd.prog 35 #[.pointer (some ⟨p, 0, none⟩)] W fun e w' => ∃ v, e = .returned v ∧ RdF w' v 9 (fun j => vi (t.key (j + 1))) ∧ Below wc.heap.size wc w') := fun W hb => by
    refine (vkeys (HS.out.old hb).vl.isv).mono ?_
    rintro e w' ⟨v, rfl, hO, hB⟩
    exact ⟨v, rfl, OwI.rd hO, hb.trans (hB.mono hb.size)⟩
  have H2 : Hid (∀ v W, RdF W v 9 (fun j => vi (t.key (j + 1))) → Below wc.heap.size wc W → Calls Tryd.prog 15 #[v, .slice ao 9 cap] W fun e w' => e = .returned (.bool true) ∧ Below wc.heap.size wc w') := fun v W hr hb => by
    refine (ints_same v (.slice ao 9 cap) 9 (fun j => t.key (j + 1)) W hr (HR.out.old hb)).mono ?_
    rintro e w' ⟨rfl, hB⟩
    exact ⟨rfl, hb.trans (hB.mono hb.size)⟩
  have H3 : Hid (∀ W, Below wc.heap.size wc W → Calls Tryd.prog 36 #[.pointer (some ⟨p, 0, none⟩)] W fun e w' => e = .returned (.agg #[.int .i64 t.host, .int .i64 t.kind]) ∧ Below wc.heap.size wc w') := fun W hb => by
    refine (vholder (HS.out.old hb).vl.isv).mono ?_
    rintro e w' ⟨rfl, hB⟩
    exact ⟨rfl, hb.trans (hB.mono hb.size)⟩
  clear hQ hS hR
  generalize t.host = x at *
  generalize t.kind = y at *
  go_wp2
  go_region_held3 (fun W => W.cell? ⟨g, 10, none⟩ = some (.int .i64 x) ∧ W.cell? ⟨g, 11, none⟩ = some (.int .i64 y)) (first | exact S4 | exact S3 | exact S2 | exact S0) ((first
    | (go_at_call 35; refine (H1.out wc.drew hb0).mono ?_; rintro e w2 ⟨v2, rfl, hO2, hB2⟩; have S2 := HC.out w2 hB2)
    | (go_at_call 15; refine (H2.out v2 w2 hO2 hB2).mono ?_; rintro e w3 ⟨rfl, hB3⟩; have S3 := HC.out w3 hB3)
    | (go_at_call 36; refine (H3.out w3 hB3).mono ?_; rintro e w4 ⟨rfl, hB4⟩; have S4 := HC.out w4 hB4)))
  have HS4 : Hid (WL w p g t t w4) := HS.out.old hB4
  clear HS HR HC H1 H2 H3 S0 S2 S3 S4 hO2 hB2 hB3 hB4 hb0
  go_wp2
  exact HQ.out _ _ _ _ _ _ _ _ _ _ _ _ _ _ _ _ _ _ _ _ _ _ _ _ _ _ _ _ HS4.out
end Go.Proofs.YtfeikmmojilmbaaDoor
