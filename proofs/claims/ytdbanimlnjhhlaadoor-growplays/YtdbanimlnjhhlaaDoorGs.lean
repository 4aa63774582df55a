/- Texts of plain mathematics, of memory and of walks, in one. -/
import Derived.Test.YtdbanimlnjhhlaaDoorGPa
import Derived.Deep.Cut
import Derived.Deep.CutRange
import Derived.BigCall
import Derived.BigGuard
import Derived.BigQuiet
/- GrowPlays, a piece: walks over the program. -/
namespace Go.Proofs.YtdbanimlnjhhlaaDoor
open Go.RowKit El Pol
set_option linter.unusedVariables false in
set_option maxRecDepth 1000000 in
set_option maxHeartbeats 4000000 in
theorem r_e (m c0 n n2 c2 n3 c3 cn : Nat) (a0 a2 a3 an : Option Addr) (x : GP) (w : World) (k q : Nat) (g : Grw) (v : Nat → Int) (u4 u5 u6 u7 u8 u11 u17 u18 u19 u20 u21 u23 u24 u25 u26 u27 u28 u29 u30 u31 u32 u33 u34 u35 u36 u37 u38 u39 u40 u41 u42 u43 u44 u45 u46 u47 u48 u49 u50 u51 u52 u53 u54 u55 u56 u57 u58 u59 u60 u61 u62 u63 u64 u65 u66 u67 u68 u69 u70 u71 u72 u73 u74 u75 u76 u77 u78 u79 u80 u81 u82 u83 u84 u85 u86 u87 u88 u89 u90 u91 u92 u93 u94 u95 u96 u97 u98 u99 u100 u101 u102 u103 u104 u105 u106 u107 u108 u109 u110 u111 u112 u113 u114 u115 u116 u117 u118 u119 u120 u121 u122 u123 u124 u125 u126 u127 u128 u129 u130 u131 u132 u133 u134 u135 u136 u137 u138 u139 u140 u141 u142 u143 u144 u145 u146 u147 u148 u149 u150 u151 u152 u153 u154 u155 u156 u157 u158 u159 u160 u161 u162 u163 u164 u165 u166 u167 u168 u169 u170 u171 u172 u173 u174 u175 u176 u177 u178 u179 u180 u181 u182 u183 u184 u185 u186 u187 u188 u189 u190 u191 u192 u193 u194 u195 u196 u197 u198 u199 u200 u201 u202 u203 u204 u205 u206 u207 u208 u209 u210 u211 u212 u213 u214 u215 u216 u217 u218 u219 u220 u221 u222 u223 u224 u225 u226 u227 u228 u229 u230 u231 u232 u233 u234 u235 u236 u237 u238 u239 u240 u241 u242 u243 u244 u245 u246 u247 u248 u249 u250 u251 u252 u253 u254 : Value) (wc : World) (Q : Exit → Act → World → Prop)
    (hS : GK w x (.slice an m cn) n m (g) (g.c) wc) (hV : VN w (GF x (.slice an m cn)) q 2 wc v)
    (hQ : ∀ (x158 x159 x160 x161 x162 x163 x164 x165 x166 x167 x168 x169 x170 x171 x172 : Value)  (w1 : World), w1 = wc → Q .normal ⟨#[.slice a0 m c0, .int .i64 ((n : Nat) : Int), .slice a2 n2 c2, .slice a3 n3 c3, u4, u5, u6, u7, u8, .int .i64 ((g.readE (v 1) : Nat) : Int), .pointer (some ⟨x.p, 0, none⟩), u11, .bool true, .slice an m cn, .int .i64 ((g.t : Nat) : Int), .int .i64 ((k : Nat) : Int), .pointer (some ⟨q, 0, none⟩), u17, u18, u19, u20, u21, st (g.readT (v 1)), u23, u24, u25, u26, u27, u28, u29, u30, u31, u32, u33, u34, u35, u36, u37, u38, u39, u40, u41, u42, u43, u44, u45, u46, u47, u48, u49, u50, u51, u52, u53, u54, u55, u56, u57, u58, u59, u60, u61, u62, u63, u64, u65, u66, u67, u68, u69, u70, u71, u72, u73, u74, u75, u76, u77, u78, u79, u80, u81, u82, u83, u84, u85, u86, u87, u88, u89, u90, u91, u92, u93, u94, u95, u96, u97, u98, u99, u100, u101, u102, u103, u104, u105, u106, u107, u108, u109, u110, u111, u112, u113, u114, u115, u116, u117, u118, u119, u120, u121, u122, u123, u124, u125, u126, u127, u128, u129, u130, u131, u132, u133, u134, u135, u136, u137, u138, u139, u140, u141, u142, u143, u144, u145, u146, u147, u148, u149, u150, u151, u152, u153, u154, u155, u156, u157, x158, x159, x160, x161, x162, x163, x164, x165, x166, x167, x168, x169, x170, x171, x172, u173, u174, u175, u176, u177, u178, u179, u180, u181, u182, u183, u184, u185, u186, u187, u188, u189, u190, u191, u192, u193, u194, u195, u196, u197, u198, u199, u200, u201, u202, u203, u204, u205, u206, u207, u208, u209, u210, u211, u212, u213, u214, u215, u216, u217, u218, u219, u220, u221, u222, u223, u224, u225, u226, u227, u228, u229, u230, u231, u232, u233, u234, u235, u236, u237, u238, u239, u240, u241, u242, u243, u244, u245, u246, u247, u248, u249, u250, u251, u252, u253, u254], []⟩ w1) :
    Code.wp Tryd.prog (cut [1, 1, 1, 1, 1, 1, 1, 1, 1, 0, 1, 2, 5, 1, 0, 2, 1, 1, 1, 1, 1, 1, 0] (Tryd.f5.body.getD .skip)) Q ⟨#[.slice a0 m c0, .int .i64 ((n : Nat) : Int), .slice a2 n2 c2, .slice a3 n3 c3, u4, u5, u6, u7, u8, .int .i64 0, .pointer (some ⟨x.p, 0, none⟩), u11, .bool true, .slice an m cn, .int .i64 ((g.t : Nat) : Int), .int .i64 ((k : Nat) : Int), .pointer (some ⟨q, 0, none⟩), u17, u18, u19, u20, u21, .string ⟨#[]⟩, u23, u24, u25, u26, u27, u28, u29, u30, u31, u32, u33, u34, u35, u36, u37, u38, u39, u40, u41, u42, u43, u44, u45, u46, u47, u48, u49, u50, u51, u52, u53, u54, u55, u56, u57, u58, u59, u60, u61, u62, u63, u64, u65, u66, u67, u68, u69, u70, u71, u72, u73, u74, u75, u76, u77, u78, u79, u80, u81, u82, u83, u84, u85, u86, u87, u88, u89, u90, u91, u92, u93, u94, u95, u96, u97, u98, u99, u100, u101, u102, u103, u104, u105, u106, u107, u108, u109, u110, u111, u112, u113, u114, u115, u116, u117, u118, u119, u120, u121, u122, u123, u124, u125, u126, u127, u128, u129, u130, u131, u132, u133, u134, u135, u136, u137, u138, u139, u140, u141, u142, u143, u144, u145, u146, u147, u148, u149, u150, u151, u152, u153, u154, u155, u156, u157, u158, u159, u160, u161, u162, u163, u164, u165, u166, u167, u168, u169, u170, u171, u172, u173, u174, u175, u176, u177, u178, u179, u180, u181, u182, u183, u184, u185, u186, u187, u188, u189, u190, u191, u192, u193, u194, u195, u196, u197, u198, u199, u200, u201, u202, u203, u204, u205, u206, u207, u208, u209, u210, u211, u212, u213, u214, u215, u216, u217, u218, u219, u220, u221, u222, u223, u224, u225, u226, u227, u228, u229, u230, u231, u232, u233, u234, u235, u236, u237, u238, u239, u240, u241, u242, u243, u244, u245, u246, u247, u248, u249, u250, u251, u252, u253, u254], []⟩ wc := by
  conv => arg 2; whnf
  have c1 := hV.at 1 (by omega)
  have hm40 := hS.m40
  have hgm := hS.gm
  generalize v 1 = z at *
  by_cases h1 : z < 0
  · have d1 : decide (z < 0) = true := decide_eq_true h1
    have hno : g.noC z := .inl h1
    rw [show g.readE z = 1 from if_pos hno, show g.readT z = [] from if_pos hno] at hQ
    have HQ : Hid _ := hQ
    clear hQ hS hV hno hgm
    go_wp2
    exact HQ.out _ _ _ _ _ _ _ _ _ _ _ _ _ _ _ _ rfl
  · have d1 : decide (z < 0) = false := decide_eq_false h1
    by_cases h2 : (m : Int) ≤ z
    · have d2 : decide ((m : Int) ≤ z) = true := decide_eq_true h2
      have hno : g.noC z := .inr (by rw [hgm]; exact h2)
      rw [show g.readE z = 1 from if_pos hno, show g.readT z = [] from if_pos hno] at hQ
      have HQ : Hid _ := hQ
      clear hQ hS hV hno hgm
      go_wp2
      exact HQ.out _ _ _ _ _ _ _ _ _ _ _ _ _ _ _ _ rfl
    · have d2 : decide ((m : Int) ≤ z) = false := decide_eq_false h2
      obtain ⟨i, rfl⟩ : ∃ i : Nat, z = (i : Int) := ⟨z.toNat, by omega⟩
      have him : i < m := by omega
      have hig : i < g.m := by rw [hgm]; exact him
      rw [Grw.readE_nat hig, Grw.readT_nat hig] at hQ
      obtain ⟨qn, cap, hv, hcn, _⟩ := hS.at' him
      obtain ⟨rfl, rfl⟩ : an = some ⟨qn, 0, none⟩ ∧ cap = cn := by cases hv; exact ⟨rfl, rfl⟩
      have HQ : Hid _ := hQ
      have hiz : (i : Int) < (m : Int) := by omega
      clear hQ hS hV hgm hig hv h1 h2
      unfold st at hcn HQ
      generalize sb (g.c i) = zz at *
      go_wp2
      exact HQ.out _ _ _ _ _ _ _ _ _ _ _ _ _ _ _ _ rfl
end Go.Proofs.YtdbanimlnjhhlaaDoor

/- GrowPlays, a piece: walks over the program. -/
namespace Go.Proofs.YtdbanimlnjhhlaaDoor
open Go.RowKit El Pol
set_option linter.unusedVariables false in
set_option maxRecDepth 1000000 in
set_option maxHeartbeats 4000000 in
theorem r_r (m c0 n n2 c2 n3 c3 cn : Nat) (a0 a2 a3 an : Option Addr) (x : GP) (w : World) (k q : Nat) (g : Grw) (v : Nat → Int) (u4 u5 u6 u7 u8 u11 u17 u18 u19 u20 u21 u23 u24 u25 u26 u27 u28 u29 u30 u31 u32 u33 u34 u35 u36 u37 u38 u39 u40 u41 u42 u43 u44 u45 u46 u47 u48 u49 u50 u51 u52 u53 u54 u55 u56 u57 u58 u59 u60 u61 u62 u63 u64 u65 u66 u67 u68 u69 u70 u71 u72 u73 u74 u75 u76 u77 u78 u79 u80 u81 u82 u83 u84 u85 u86 u87 u88 u89 u90 u91 u92 u93 u94 u95 u96 u97 u98 u99 u100 u101 u102 u103 u104 u105 u106 u107 u108 u109 u110 u111 u112 u113 u114 u115 u116 u117 u118 u119 u120 u121 u122 u123 u124 u125 u126 u127 u128 u129 u130 u131 u132 u133 u134 u135 u136 u137 u138 u139 u140 u141 u142 u143 u144 u145 u146 u147 u148 u149 u150 u151 u152 u153 u154 u155 u156 u157 u158 u159 u160 u161 u162 u163 u164 u165 u166 u167 u168 u169 u170 u171 u172 u173 u174 u175 u176 u177 u178 u179 u180 u181 u182 u183 u184 u185 u186 u187 u188 u189 u190 u191 u192 u193 u194 u195 u196 u197 u198 u199 u200 u201 u202 u203 u204 u205 u206 u207 u208 u209 u210 u211 u212 u213 u214 u215 u216 u217 u218 u219 u220 u221 u222 u223 u224 u225 u226 u227 u228 u229 u230 u231 u232 u233 u234 u235 u236 u237 u238 u239 u240 u241 u242 u243 u244 u245 u246 u247 u248 u249 u250 u251 u252 u253 u254 : Value) (wc : World) (Q : Exit → Act → World → Prop)
    (hS : GK w x (.slice an m cn) n m (g) (g.c) wc) (hV : VN w (GF x (.slice an m cn)) q 2 wc v)
    (hQ : ∀ (x173 x174 x175 x176 x177 x178 x179 : Value)  (w1 : World), GK w x (.slice an m cn) n m (g) (g.c) w1 → Q .normal ⟨#[.slice a0 m c0, .int .i64 ((n : Nat) : Int), .slice a2 n2 c2, .slice a3 n3 c3, u4, u5, u6, u7, u8, .int .i64 ((g.readE (v 1) : Nat) : Int), .pointer (some ⟨x.p, 0, none⟩), u11, .bool true, .slice an m cn, .int .i64 ((g.t : Nat) : Int), .int .i64 ((k : Nat) : Int), .pointer (some ⟨q, 0, none⟩), u17, u18, u19, u20, u21, st (g.readT (v 1)), st (g.readT (v 1)), errV (g.readE (v 1)), u25, u26, u27, u28, u29, u30, u31, u32, u33, u34, u35, u36, u37, u38, u39, u40, u41, u42, u43, u44, u45, u46, u47, u48, u49, u50, u51, u52, u53, u54, u55, u56, u57, u58, u59, u60, u61, u62, u63, u64, u65, u66, u67, u68, u69, u70, u71, u72, u73, u74, u75, u76, u77, u78, u79, u80, u81, u82, u83, u84, u85, u86, u87, u88, u89, u90, u91, u92, u93, u94, u95, u96, u97, u98, u99, u100, u101, u102, u103, u104, u105, u106, u107, u108, u109, u110, u111, u112, u113, u114, u115, u116, u117, u118, u119, u120, u121, u122, u123, u124, u125, u126, u127, u128, u129, u130, u131, u132, u133, u134, u135, u136, u137, u138, u139, u140, u141, u142, u143, u144, u145, u146, u147, u148, u149, u150, u151, u152, u153, u154, u155, u156, u157, u158, u159, u160, u161, u162, u163, u164, u165, u166, u167, u168, u169, u170, u171, u172, x173, x174, x175, x176, x177, x178, x179, u180, u181, u182, u183, u184, u185, u186, u187, u188, u189, u190, u191, u192, u193, u194, u195, u196, u197, u198, u199, u200, u201, u202, u203, u204, u205, u206, u207, u208, u209, u210, u211, u212, u213, u214, u215, u216, u217, u218, u219, u220, u221, u222, u223, u224, u225, u226, u227, u228, u229, u230, u231, u232, u233, u234, u235, u236, u237, u238, u239, u240, u241, u242, u243, u244, u245, u246, u247, u248, u249, u250, u251, u252, u253, u254], []⟩ w1) :
    Code.wp Tryd.prog (cut [1, 1, 1, 1, 1, 1, 1, 1, 1, 0, 1, 2, 5, 1, 0, 2, 1, 1, 1, 1, 1, 1, 1, 0] (Tryd.f5.body.getD .skip)) Q ⟨#[.slice a0 m c0, .int .i64 ((n : Nat) : Int), .slice a2 n2 c2, .slice a3 n3 c3, u4, u5, u6, u7, u8, .int .i64 ((g.readE (v 1) : Nat) : Int), .pointer (some ⟨x.p, 0, none⟩), u11, .bool true, .slice an m cn, .int .i64 ((g.t : Nat) : Int), .int .i64 ((k : Nat) : Int), .pointer (some ⟨q, 0, none⟩), u17, u18, u19, u20, u21, st (g.readT (v 1)), u23, u24, u25, u26, u27, u28, u29, u30, u31, u32, u33, u34, u35, u36, u37, u38, u39, u40, u41, u42, u43, u44, u45, u46, u47, u48, u49, u50, u51, u52, u53, u54, u55, u56, u57, u58, u59, u60, u61, u62, u63, u64, u65, u66, u67, u68, u69, u70, u71, u72, u73, u74, u75, u76, u77, u78, u79, u80, u81, u82, u83, u84, u85, u86, u87, u88, u89, u90, u91, u92, u93, u94, u95, u96, u97, u98, u99, u100, u101, u102, u103, u104, u105, u106, u107, u108, u109, u110, u111, u112, u113, u114, u115, u116, u117, u118, u119, u120, u121, u122, u123, u124, u125, u126, u127, u128, u129, u130, u131, u132, u133, u134, u135, u136, u137, u138, u139, u140, u141, u142, u143, u144, u145, u146, u147, u148, u149, u150, u151, u152, u153, u154, u155, u156, u157, u158, u159, u160, u161, u162, u163, u164, u165, u166, u167, u168, u169, u170, u171, u172, u173, u174, u175, u176, u177, u178, u179, u180, u181, u182, u183, u184, u185, u186, u187, u188, u189, u190, u191, u192, u193, u194, u195, u196, u197, u198, u199, u200, u201, u202, u203, u204, u205, u206, u207, u208, u209, u210, u211, u212, u213, u214, u215, u216, u217, u218, u219, u220, u221, u222, u223, u224, u225, u226, u227, u228, u229, u230, u231, u232, u233, u234, u235, u236, u237, u238, u239, u240, u241, u242, u243, u244, u245, u246, u247, u248, u249, u250, u251, u252, u253, u254], []⟩ wc := by
  conv => arg 2; whnf
  have c1 := hV.at 1 (by omega)
  have HQ : Hid _ := hQ
  have A := hS.read (v 1)
  have HS : Hid (GK w x (.slice an m cn) n m (g) (g.c) wc) := hS
  clear hQ hS hV
  unfold st at A HQ ⊢
  generalize errV (g.readE (v 1)) = ev at *
  generalize sb (g.readT (v 1)) = s at *
  generalize g.readE (v 1) = f at *
  generalize v 1 = z at *
  go_wp2_with fail
  refine A.mono ?_
  rintro e w2 ⟨rfl, hB2⟩
  have HS2 : Hid (GK w x (.slice an m cn) n m (g) (g.c) w2) := HS.out.old hB2
  clear A hB2 HS
  go_wp2
  exact HQ.out _ _ _ _ _ _ _ _ HS2.out

set_option linter.unusedVariables false in
set_option maxRecDepth 1000000 in
set_option maxHeartbeats 4000000 in
theorem r_c (m c0 n n2 c2 n3 c3 cn : Nat) (a0 a2 a3 an : Option Addr) (x : GP) (w : World) (k q : Nat) (g : Grw) (v : Nat → Int) (u4 u5 u6 u7 u8 u11 u17 u18 u19 u20 u21 u25 u26 u27 u28 u29 u30 u31 u32 u33 u34 u35 u36 u37 u38 u39 u40 u41 u42 u43 u44 u45 u46 u47 u48 u49 u50 u51 u52 u53 u54 u55 u56 u57 u58 u59 u60 u61 u62 u63 u64 u65 u66 u67 u68 u69 u70 u71 u72 u73 u74 u75 u76 u77 u78 u79 u80 u81 u82 u83 u84 u85 u86 u87 u88 u89 u90 u91 u92 u93 u94 u95 u96 u97 u98 u99 u100 u101 u102 u103 u104 u105 u106 u107 u108 u109 u110 u111 u112 u113 u114 u115 u116 u117 u118 u119 u120 u121 u122 u123 u124 u125 u126 u127 u128 u129 u130 u131 u132 u133 u134 u135 u136 u137 u138 u139 u140 u141 u142 u143 u144 u145 u146 u147 u148 u149 u150 u151 u152 u153 u154 u155 u156 u157 u158 u159 u160 u161 u162 u163 u164 u165 u166 u167 u168 u169 u170 u171 u172 u173 u174 u175 u176 u177 u178 u179 u180 u181 u182 u183 u184 u185 u186 u187 u188 u189 u190 u191 u192 u193 u194 u195 u196 u197 u198 u199 u200 u201 u202 u203 u204 u205 u206 u207 u208 u209 u210 u211 u212 u213 u214 u215 u216 u217 u218 u219 u220 u221 u222 u223 u224 u225 u226 u227 u228 u229 u230 u231 u232 u233 u234 u235 u236 u237 u238 u239 u240 u241 u242 u243 u244 u245 u246 u247 u248 u249 u250 u251 u252 u253 u254 : Value) (wc : World) (Q : Exit → Act → World → Prop)
    (HG : Hid (Handle w)) (hS : GK w x (.slice an m cn) n m (g) (g.c) wc)
    (hQ : ∀ (x180 x181 x182 x183 x184 x185 x186 x187 : Value)  (w1 : World), GK w x (.slice an m cn) n m (g) (g.c) w1 → Q .normal ⟨#[.slice a0 m c0, .int .i64 ((n : Nat) : Int), .slice a2 n2 c2, .slice a3 n3 c3, u4, u5, u6, u7, u8, .int .i64 ((g.readE (v 1) : Nat) : Int), .pointer (some ⟨x.p, 0, none⟩), u11, .bool true, .slice an m cn, .int .i64 ((g.t : Nat) : Int), .int .i64 ((k : Nat) : Int), .pointer (some ⟨q, 0, none⟩), u17, u18, u19, u20, u21, st (g.readT (v 1)), st (g.readT (v 1)), errV (g.readE (v 1)), .bool true, u26, u27, u28, u29, u30, u31, u32, u33, u34, u35, u36, u37, u38, u39, u40, u41, u42, u43, u44, u45, u46, u47, u48, u49, u50, u51, u52, u53, u54, u55, u56, u57, u58, u59, u60, u61, u62, u63, u64, u65, u66, u67, u68, u69, u70, u71, u72, u73, u74, u75, u76, u77, u78, u79, u80, u81, u82, u83, u84, u85, u86, u87, u88, u89, u90, u91, u92, u93, u94, u95, u96, u97, u98, u99, u100, u101, u102, u103, u104, u105, u106, u107, u108, u109, u110, u111, u112, u113, u114, u115, u116, u117, u118, u119, u120, u121, u122, u123, u124, u125, u126, u127, u128, u129, u130, u131, u132, u133, u134, u135, u136, u137, u138, u139, u140, u141, u142, u143, u144, u145, u146, u147, u148, u149, u150, u151, u152, u153, u154, u155, u156, u157, u158, u159, u160, u161, u162, u163, u164, u165, u166, u167, u168, u169, u170, u171, u172, u173, u174, u175, u176, u177, u178, u179, x180, x181, x182, x183, x184, x185, x186, x187, u188, u189, u190, u191, u192, u193, u194, u195, u196, u197, u198, u199, u200, u201, u202, u203, u204, u205, u206, u207, u208, u209, u210, u211, u212, u213, u214, u215, u216, u217, u218, u219, u220, u221, u222, u223, u224, u225, u226, u227, u228, u229, u230, u231, u232, u233, u234, u235, u236, u237, u238, u239, u240, u241, u242, u243, u244, u245, u246, u247, u248, u249, u250, u251, u252, u253, u254], []⟩ w1) :
    Code.wp Tryd.prog (cut [1, 1, 1, 1, 1, 1, 1, 1, 1, 0, 1, 2, 5, 1, 0, 2, 1, 1, 1, 1, 1, 1, 1, 1, 0] (Tryd.f5.body.getD .skip)) Q ⟨#[.slice a0 m c0, .int .i64 ((n : Nat) : Int), .slice a2 n2 c2, .slice a3 n3 c3, u4, u5, u6, u7, u8, .int .i64 ((g.readE (v 1) : Nat) : Int), .pointer (some ⟨x.p, 0, none⟩), u11, .bool true, .slice an m cn, .int .i64 ((g.t : Nat) : Int), .int .i64 ((k : Nat) : Int), .pointer (some ⟨q, 0, none⟩), u17, u18, u19, u20, u21, st (g.readT (v 1)), st (g.readT (v 1)), errV (g.readE (v 1)), u25, u26, u27, u28, u29, u30, u31, u32, u33, u34, u35, u36, u37, u38, u39, u40, u41, u42, u43, u44, u45, u46, u47, u48, u49, u50, u51, u52, u53, u54, u55, u56, u57, u58, u59, u60, u61, u62, u63, u64, u65, u66, u67, u68, u69, u70, u71, u72, u73, u74, u75, u76, u77, u78, u79, u80, u81, u82, u83, u84, u85, u86, u87, u88, u89, u90, u91, u92, u93, u94, u95, u96, u97, u98, u99, u100, u101, u102, u103, u104, u105, u106, u107, u108, u109, u110, u111, u112, u113, u114, u115, u116, u117, u118, u119, u120, u121, u122, u123, u124, u125, u126, u127, u128, u129, u130, u131, u132, u133, u134, u135, u136, u137, u138, u139, u140, u141, u142, u143, u144, u145, u146, u147, u148, u149, u150, u151, u152, u153, u154, u155, u156, u157, u158, u159, u160, u161, u162, u163, u164, u165, u166, u167, u168, u169, u170, u171, u172, u173, u174, u175, u176, u177, u178, u179, u180, u181, u182, u183, u184, u185, u186, u187, u188, u189, u190, u191, u192, u193, u194, u195, u196, u197, u198, u199, u200, u201, u202, u203, u204, u205, u206, u207, u208, u209, u210, u211, u212, u213, u214, u215, u216, u217, u218, u219, u220, u221, u222, u223, u224, u225, u226, u227, u228, u229, u230, u231, u232, u233, u234, u235, u236, u237, u238, u239, u240, u241, u242, u243, u244, u245, u246, u247, u248, u249, u250, u251, u252, u253, u254], []⟩ wc := by
  conv => arg 2; whnf
  have HQ : Hid _ := hQ
  have HE : Hid (∀ (kk : Nat) (w2 : World), Below w.heap.size w w2 → Calls Tryd.prog 9 #[errV kk, .int .i64 ((kk : Nat) : Int)] w2 fun e w' => e = .returned (.bool true) ∧ Below w2.heap.size w2 w') := fun kk w2 h => err_v kk w2 (HG.out.old h)
  have HS : Hid (GK w x (.slice an m cn) n m (g) (g.c) wc) := hS
  have E := HE.out (g.readE (v 1)) wc hS.low
  clear hQ hS HE
  unfold st at HQ ⊢
  generalize errV (g.readE (v 1)) = ev at *
  generalize sb (g.readT (v 1)) = s at *
  generalize g.readE (v 1) = f at *
  generalize ((f : Nat) : Int) = fi at *
  go_wp2_with fail
  refine E.mono ?_
  rintro e w2 ⟨rfl, hB2⟩
  have HS2 : Hid (GK w x (.slice an m cn) n m (g) (g.c) w2) := HS.out.old hB2
  clear E hB2 HS
  go_wp2
  exact HQ.out _ _ _ _ _ _ _ _ _ HS2.out
end Go.Proofs.YtdbanimlnjhhlaaDoor

/- GrowPlays, a piece: walks over the program. -/
namespace Go.Proofs.YtdbanimlnjhhlaaDoor
open Go.RowKit El Pol
set_option linter.unusedVariables false in
set_option maxRecDepth 1000000 in
set_option maxHeartbeats 4000000 in
theorem d_m (m c0 n n2 c2 n3 c3 cn : Nat) (a0 a2 a3 an : Option Addr) (x : GP) (w : World) (k q : Nat) (g : Grw) (u4 u5 u6 u7 u8 u9 u11 u17 u18 u19 u20 u21 u22 u23 u24 u26 u27 u28 u29 u30 u31 u32 u33 u34 u35 u36 u37 u38 u39 u40 u41 u42 u43 u44 u45 u46 u47 u48 u49 u50 u51 u52 u53 u54 u55 u56 u57 u58 u59 u60 u61 u62 u63 u64 u65 u66 u67 u68 u69 u70 u71 u72 u73 u74 u75 u76 u77 u78 u79 u80 u81 u82 u83 u84 u85 u86 u87 u88 u89 u90 u91 u92 u93 u94 u95 u96 u97 u98 u99 u100 u101 u102 u103 u104 u105 u106 u107 u108 u109 u110 u111 u112 u113 u114 u115 u116 u117 u118 u119 u120 u121 u122 u123 u124 u125 u126 u127 u128 u129 u130 u131 u132 u133 u134 u135 u136 u137 u138 u139 u140 u141 u142 u143 u144 u145 u146 u147 u148 u149 u150 u151 u152 u153 u154 u155 u156 u157 u158 u159 u160 u161 u162 u163 u164 u165 u166 u167 u168 u169 u170 u171 u172 u173 u174 u175 u176 u177 u178 u179 u180 u181 u182 u183 u184 u185 u186 u187 u188 u189 u190 u191 u192 u193 u194 u195 u196 u197 u198 u199 u200 u201 u202 u203 u204 u205 u206 u207 u208 u209 u210 u211 u212 u213 u214 u215 u216 u217 u218 u219 u220 u221 u222 u223 u224 u225 u226 u227 u228 u229 u230 u231 u232 u233 u234 u235 u236 u237 u238 u239 u240 u241 u242 u243 u244 u245 u246 u247 u248 u249 u250 u251 u252 u253 u254 : Value) (wc : World) (Q : Exit → Act → World → Prop)
    (hS : GK w x (.slice an m cn) n m (g) (g.c) wc)
    (hQ : ∀ (x188 x189 x190 : Value) (qd : Nat) (w1 : World), GK w x (.slice an m cn) n m (g) (g.c) w1 → (∃ rv, OTT wc.heap.size w1 qd (n + 1) (n + 1) rv (fun d => ght n g.t d (0)) (fun d r => gen [] g.c n g.t d r (0))) → Below wc.heap.size wc w1 → Q .normal ⟨#[.slice a0 m c0, .int .i64 ((n : Nat) : Int), .slice a2 n2 c2, .slice a3 n3 c3, u4, u5, u6, u7, u8, u9, .pointer (some ⟨x.p, 0, none⟩), u11, .bool true, .slice an m cn, .int .i64 ((g.t : Nat) : Int), .int .i64 ((k : Nat) : Int), .pointer (some ⟨q, 0, none⟩), u17, u18, u19, u20, u21, u22, u23, u24, .bool true, .slice (some ⟨qd, 0, none⟩) (n + 1) (n + 1), u27, u28, u29, u30, u31, u32, u33, u34, u35, u36, u37, u38, u39, u40, u41, u42, u43, u44, u45, u46, u47, u48, u49, u50, u51, u52, u53, u54, u55, u56, u57, u58, u59, u60, u61, u62, u63, u64, u65, u66, u67, u68, u69, u70, u71, u72, u73, u74, u75, u76, u77, u78, u79, u80, u81, u82, u83, u84, u85, u86, u87, u88, u89, u90, u91, u92, u93, u94, u95, u96, u97, u98, u99, u100, u101, u102, u103, u104, u105, u106, u107, u108, u109, u110, u111, u112, u113, u114, u115, u116, u117, u118, u119, u120, u121, u122, u123, u124, u125, u126, u127, u128, u129, u130, u131, u132, u133, u134, u135, u136, u137, u138, u139, u140, u141, u142, u143, u144, u145, u146, u147, u148, u149, u150, u151, u152, u153, u154, u155, u156, u157, u158, u159, u160, u161, u162, u163, u164, u165, u166, u167, u168, u169, u170, u171, u172, u173, u174, u175, u176, u177, u178, u179, u180, u181, u182, u183, u184, u185, u186, u187, x188, x189, x190, u191, u192, u193, u194, u195, u196, u197, u198, u199, u200, u201, u202, u203, u204, u205, u206, u207, u208, u209, u210, u211, u212, u213, u214, u215, u216, u217, u218, u219, u220, u221, u222, u223, u224, u225, u226, u227, u228, u229, u230, u231, u232, u233, u234, u235, u236, u237, u238, u239, u240, u241, u242, u243, u244, u245, u246, u247, u248, u249, u250, u251, u252, u253, u254], []⟩ w1) :
    Code.wp Tryd.prog (cut [1, 1, 1, 1, 1, 1, 1, 1, 1, 0, 1, 2, 5, 1, 0, 2, 1, 1, 1, 1, 1, 1, 1, 1, 1, 0] (Tryd.f5.body.getD .skip)) Q ⟨#[.slice a0 m c0, .int .i64 ((n : Nat) : Int), .slice a2 n2 c2, .slice a3 n3 c3, u4, u5, u6, u7, u8, u9, .pointer (some ⟨x.p, 0, none⟩), u11, .bool true, .slice an m cn, .int .i64 ((g.t : Nat) : Int), .int .i64 ((k : Nat) : Int), .pointer (some ⟨q, 0, none⟩), u17, u18, u19, u20, u21, u22, u23, u24, .bool true, u26, u27, u28, u29, u30, u31, u32, u33, u34, u35, u36, u37, u38, u39, u40, u41, u42, u43, u44, u45, u46, u47, u48, u49, u50, u51, u52, u53, u54, u55, u56, u57, u58, u59, u60, u61, u62, u63, u64, u65, u66, u67, u68, u69, u70, u71, u72, u73, u74, u75, u76, u77, u78, u79, u80, u81, u82, u83, u84, u85, u86, u87, u88, u89, u90, u91, u92, u93, u94, u95, u96, u97, u98, u99, u100, u101, u102, u103, u104, u105, u106, u107, u108, u109, u110, u111, u112, u113, u114, u115, u116, u117, u118, u119, u120, u121, u122, u123, u124, u125, u126, u127, u128, u129, u130, u131, u132, u133, u134, u135, u136, u137, u138, u139, u140, u141, u142, u143, u144, u145, u146, u147, u148, u149, u150, u151, u152, u153, u154, u155, u156, u157, u158, u159, u160, u161, u162, u163, u164, u165, u166, u167, u168, u169, u170, u171, u172, u173, u174, u175, u176, u177, u178, u179, u180, u181, u182, u183, u184, u185, u186, u187, u188, u189, u190, u191, u192, u193, u194, u195, u196, u197, u198, u199, u200, u201, u202, u203, u204, u205, u206, u207, u208, u209, u210, u211, u212, u213, u214, u215, u216, u217, u218, u219, u220, u221, u222, u223, u224, u225, u226, u227, u228, u229, u230, u231, u232, u233, u234, u235, u236, u237, u238, u239, u240, u241, u242, u243, u244, u245, u246, u247, u248, u249, u250, u251, u252, u253, u254], []⟩ wc := by
  conv => arg 2; whnf
  obtain ⟨i0, hi, hz0, hz1, hz2⟩ := info_parts infoST
  have HQ : Hid _ := hQ
  have hn9 := hS.ok.n9
  rw [hS.gn] at hn9
  have HS : Hid (GK w x (.slice an m cn) n m (g) (g.c) wc) := hS
  clear hQ hS
  go_wp2_with (first | (at_make; refine wpList_make_full _ rfl _ _ 42 rfl wc.heap.size 33 i0 (.slice none 0 0) 1 Tryd.underlying42 hi hz0 hz1 _ _ _ _ (n + 1) rfl rfl (by simp) (by simp) (by rw [hz2]; omega) (by unfold maxLen; omega) (Nat.le_refl _) ?_))
  intro w2 hown hgrow
  have hB2 : Below wc.heap.size wc w2 := below_of_grown hgrow
  have HS2 : Hid (GK w x (.slice an m cn) n m (g) (g.c) w2) := HS.out.old hB2
  have HB2 : Hid (Below wc.heap.size wc w2) := hB2
  have HT2 : Hid (∃ rv, OTT wc.heap.size w2 wc.heap.size (n + 1) (n + 1) rv (fun d => ght n g.t d 0) (fun d r => gen [] g.c n g.t d r 0)) := ⟨_, OTT.made hown _⟩
  clear hown hgrow hB2 HS
  go_wp2
  exact HQ.out _ _ _ _ _ HS2.out HT2.out HB2.out
end Go.Proofs.YtdbanimlnjhhlaaDoor

/- GrowPlays, a piece: walks over the program. -/
namespace Go.Proofs.YtdbanimlnjhhlaaDoor
open Go.RowKit El Pol
set_option linter.unusedVariables false in
set_option maxRecDepth 1000000 in
set_option maxHeartbeats 4000000 in
theorem f_i (m c0 n n2 c2 n3 c3 cn : Nat) (a0 a2 a3 an : Option Addr) (x : GP) (w : World) (k q qd : Nat) (g : Grw) (u4 u5 u6 u7 u8 u9 u11 u17 u18 u19 u20 u21 u22 u23 u24 u27 u28 u29 u30 u31 u32 u33 u34 u35 u36 u37 u38 u39 u40 u41 u42 u43 u44 u45 u46 u47 u48 u49 u50 u51 u52 u53 u54 u55 u56 u57 u58 u59 u60 u61 u62 u63 u64 u65 u66 u67 u68 u69 u70 u71 u72 u73 u74 u75 u76 u77 u78 u79 u80 u81 u82 u83 u84 u85 u86 u87 u88 u89 u90 u91 u92 u93 u94 u95 u96 u97 u98 u99 u100 u101 u102 u103 u104 u105 u106 u107 u108 u109 u110 u111 u112 u113 u114 u115 u116 u117 u118 u119 u120 u121 u122 u123 u124 u125 u126 u127 u128 u129 u130 u131 u132 u133 u134 u135 u136 u137 u138 u139 u140 u141 u142 u143 u144 u145 u146 u147 u148 u149 u150 u151 u152 u153 u154 u155 u156 u157 u158 u159 u160 u161 u162 u163 u164 u165 u166 u167 u168 u169 u170 u171 u172 u173 u174 u175 u176 u177 u178 u179 u180 u181 u182 u183 u184 u185 u186 u187 u188 u189 u190 u191 u192 u193 u194 u195 u196 u197 u198 u199 u200 u201 u202 u203 u204 u205 u206 u207 u208 u209 u210 u211 u212 u213 u214 u215 u216 u217 u218 u219 u220 u221 u222 u223 u224 u225 u226 u227 u228 u229 u230 u231 u232 u233 u234 u235 u236 u237 u238 u239 u240 u241 u242 u243 u244 u245 u246 u247 u248 u249 u250 u251 u252 u253 u254 : Value) (wc : World) (Q : Exit → Act → World → Prop)
    (hS : GK w x (.slice an m cn) n m (g) (g.c) wc) (hR : RdTT wc (.slice (some ⟨qd, 0, none⟩) (n + 1) (n + 1)) (n + 1) (fun d => ght n g.t d m) (fun d r => gen [] g.c n g.t d r m))
    (hQ : ∀ (x8 x236 x237 x238 x239 x240 x241 x242 x243 x244 x245 x246 x247 x248 x249 x250 x251 x252 x253 x254 : Value)  (w1 : World), GK w x (.slice an m cn) n m (g) (g.c) w1 → Q .normal ⟨#[.slice a0 m c0, .int .i64 ((n : Nat) : Int), .slice a2 n2 c2, .slice a3 n3 c3, u4, u5, u6, u7, x8, u9, .pointer (some ⟨x.p, 0, none⟩), u11, .bool true, .slice an m cn, .int .i64 ((g.t : Nat) : Int), .int .i64 ((k : Nat) : Int), .pointer (some ⟨q, 0, none⟩), u17, u18, u19, u20, u21, u22, u23, u24, .bool true, .slice (some ⟨qd, 0, none⟩) (n + 1) (n + 1), u27, u28, u29, u30, u31, u32, u33, u34, u35, u36, u37, u38, u39, u40, u41, u42, u43, u44, u45, u46, u47, u48, u49, u50, u51, u52, u53, u54, u55, u56, u57, u58, u59, u60, u61, u62, u63, u64, u65, u66, u67, u68, u69, u70, u71, u72, u73, u74, u75, u76, u77, u78, u79, u80, u81, u82, u83, u84, u85, u86, u87, u88, u89, u90, u91, u92, u93, u94, u95, u96, u97, u98, u99, u100, u101, u102, u103, u104, u105, u106, u107, u108, u109, u110, u111, u112, u113, u114, u115, u116, u117, u118, u119, u120, u121, u122, u123, u124, u125, u126, u127, u128, u129, u130, u131, u132, u133, u134, u135, u136, u137, u138, u139, u140, u141, u142, u143, u144, u145, u146, u147, u148, u149, u150, u151, u152, u153, u154, u155, u156, u157, u158, u159, u160, u161, u162, u163, u164, u165, u166, u167, u168, u169, u170, u171, u172, u173, u174, u175, u176, u177, u178, u179, u180, u181, u182, u183, u184, u185, u186, u187, u188, u189, u190, u191, u192, u193, u194, u195, u196, u197, u198, u199, u200, u201, u202, u203, u204, u205, u206, u207, u208, u209, u210, u211, u212, u213, u214, u215, u216, u217, u218, u219, u220, u221, u222, u223, u224, u225, u226, u227, u228, u229, u230, u231, u232, u233, u234, u235, x236, x237, x238, x239, x240, x241, x242, x243, x244, x245, x246, x247, x248, x249, x250, x251, x252, x253, x254], []⟩ w1) :
    Code.wp Tryd.prog (cut [1, 1, 1, 1, 1, 1, 1, 1, 1, 0, 1, 2, 5, 1, 0, 2, 1, 1, 1, 1, 1, 1, 1, 1, 1, 1, 1] (Tryd.f5.body.getD .skip)) Q ⟨#[.slice a0 m c0, .int .i64 ((n : Nat) : Int), .slice a2 n2 c2, .slice a3 n3 c3, u4, u5, u6, u7, u8, u9, .pointer (some ⟨x.p, 0, none⟩), u11, .bool true, .slice an m cn, .int .i64 ((g.t : Nat) : Int), .int .i64 ((k : Nat) : Int), .pointer (some ⟨q, 0, none⟩), u17, u18, u19, u20, u21, u22, u23, u24, .bool true, .slice (some ⟨qd, 0, none⟩) (n + 1) (n + 1), u27, u28, u29, u30, u31, u32, u33, u34, u35, u36, u37, u38, u39, u40, u41, u42, u43, u44, u45, u46, u47, u48, u49, u50, u51, u52, u53, u54, u55, u56, u57, u58, u59, u60, u61, u62, u63, u64, u65, u66, u67, u68, u69, u70, u71, u72, u73, u74, u75, u76, u77, u78, u79, u80, u81, u82, u83, u84, u85, u86, u87, u88, u89, u90, u91, u92, u93, u94, u95, u96, u97, u98, u99, u100, u101, u102, u103, u104, u105, u106, u107, u108, u109, u110, u111, u112, u113, u114, u115, u116, u117, u118, u119, u120, u121, u122, u123, u124, u125, u126, u127, u128, u129, u130, u131, u132, u133, u134, u135, u136, u137, u138, u139, u140, u141, u142, u143, u144, u145, u146, u147, u148, u149, u150, u151, u152, u153, u154, u155, u156, u157, u158, u159, u160, u161, u162, u163, u164, u165, u166, u167, u168, u169, u170, u171, u172, u173, u174, u175, u176, u177, u178, u179, u180, u181, u182, u183, u184, u185, u186, u187, u188, u189, u190, u191, u192, u193, u194, u195, u196, u197, u198, u199, u200, u201, u202, u203, u204, u205, u206, u207, u208, u209, u210, u211, u212, u213, u214, u215, u216, u217, u218, u219, u220, u221, u222, u223, u224, u225, u226, u227, u228, u229, u230, u231, u232, u233, u234, u235, u236, u237, u238, u239, u240, u241, u242, u243, u244, u245, u246, u247, u248, u249, u250, u251, u252, u253, u254], []⟩ wc := by
  conv => arg 2; whnf
  have HQ : Hid _ := hQ
  have A := gdone_any hS.isg
  have D := gdisks_any hS.isg hS.ok
  rw [hS.gn] at D
  have HS : Hid (GK w x (.slice an m cn) n m (g) (g.c) wc) := hS
  have HR : Hid (RdTT wc (.slice (some ⟨qd, 0, none⟩) (n + 1) (n + 1)) (n + 1) (fun d => ght n g.t d m) (fun d r => gen [] g.c n g.t d r m)) := hR
  have HHt : Hid (g.ht = (fun d => ght n g.t d m) ∧ g.row = (fun d r => gen [] g.c n g.t d r m)) := by
    refine ⟨?_, ?_⟩
    · funext d
      show ght g.n g.t d g.m = _
      rw [hS.gn, hS.gm]
    · funext d r
      show gen [] g.c g.n g.t d r g.m = _
      rw [hS.gn, hS.gm]
  clear hQ hS hR
  generalize ((g.t : Nat) : Int) = ti at *
  go_wp2_with fail
  refine A.mono ?_
  rintro e w2 ⟨rfl, hw⟩
  obtain rfl := hw.symm
  clear A hw
  go_wp2_with fail
  refine D.mono ?_
  rintro e w3 ⟨q3, rfl, hD, hB3⟩
  rw [HHt.out.1, HHt.out.2] at hD
  have E := disks_same _ _ (n + 1) _ _ w3 hD (RdTT.old HR.out hB3)
  have HS3 : Hid (GK w x (.slice an m cn) n m (g) (g.c) w3) := HS.out.old hB3
  clear D hD hB3 HS HR HHt
  go_wp2_with fail
  refine E.mono ?_
  rintro e w4 ⟨rfl, hB4⟩
  have HS4 : Hid (GK w x (.slice an m cn) n m (g) (g.c) w4) := HS3.out.old hB4
  clear E hB4 HS3
  go_wp2
  exact HQ.out _ _ _ _ _ _ _ _ _ _ _ _ _ _ _ _ _ _ _ _ _ HS4.out
end Go.Proofs.YtdbanimlnjhhlaaDoor
