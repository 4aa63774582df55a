/- ReservePlays, a piece: walks over the program. -/
import Derived.Test.YtfeikmmojilmbaaDoorRPb
namespace Go.Proofs.YtfeikmmojilmbaaDoor
open Go.RowKit
set_option linter.unusedVariables false in
set_option maxRecDepth 1000000 in
set_option maxHeartbeats 4000000 in
theorem r_w3 (n1 c1 p g : Nat) (a1 : Option Addr) (w : World) (k q : Nat) (t : Rsv) (v : Nat → Int) (u1 u2 u7 u9 u10 u11 u12 u13 u14 u15 u16 u17 u18 u19 u20 u21 u22 u23 u24 u25 u26 u27 u28 u29 u30 u31 u32 u33 u34 u35 u36 u37 u38 u39 u40 u41 u42 u43 u44 u45 u46 u47 u48 u49 u50 u51 u52 u53 u54 u55 u56 u57 u58 u59 u60 u61 u62 u63 u64 u65 u66 u67 u68 u69 u70 u71 u72 u73 u74 u75 u76 u77 u78 u79 u80 u81 u82 u83 u84 u85 u86 u87 u88 u89 u90 u91 u92 u93 u94 u95 u96 u97 u98 u99 u100 u101 u102 u103 u104 u105 u106 u107 u108 u109 u110 u111 u112 u113 u114 u115 u116 u117 u118 u119 u120 u121 u122 u123 u124 u125 u126 u127 u128 u129 u130 u131 u132 u133 u134 u135 u136 u137 u138 u139 u140 u141 u142 u143 u144 u145 u146 u147 u148 u149 u150 u151 u152 u153 u154 u155 u156 u157 u158 u159 u160 u161 u162 u163 u164 u165 u166 u167 u168 u169 u170 u171 u172 u173 u174 u175 u176 u177 u178 u179 u180 u181 u182 u183 u184 u185 u186 u187 u188 u189 u190 u191 u192 u193 u194 u195 u196 u197 u198 u199 u200 u201 u202 u203 u204 u205 u206 u207 u208 u209 u210 u211 u212 u213 u214 u215 u216 u217 u218 u219 u220 u221 u222 u223 u224 u225 u226 u227 u228 u229 u230 u231 u232 u233 u234 u235 u236 u237 u238 u239 u240 : Value) (wc : World) (Q : Exit → Act → World → Prop)
    (HG : Hid (Handle w)) (hS : WL w p g t t wc) (hV : VN w (WF p g) q 4 wc v) (h0 : v 0 = 3)
    (hQ : ∀ (x9 x10 x11 x12 x58 x59 x60 x61 x62 x63 x64 x65 x66 x67 x68 x69 x70 x71 x72 x73 x74 x75 x76 x77 x78 x79 x80 x81 x82 x83 x84 x85 x86 x87 x88 x89 x90 x91 x92 x93 x94 x95 x96 x97 x98 x99 x100 x101 x102 x103 x104 x105 x106 x107 x108 x109 x110 x111 x112 x113 x114 x115 x116 x117 x118 x119 x120 x121 x122 x123 x124 x125 x126 x127 x128 x129 x130 x131 x132 x133 x134 x135 x136 x137 x138 x139 x140 x141 x142 x143 x144 x145 x146 x147 x148 x149 x150 x151 x152 x153 x154 x155 : Value) (t' : Rsv) (w1 : World), WL w p g t' t' w1 → VN w (WF p g) q 4 w1 v → Q .normal ⟨#[.slice a1 n1 c1, u1, u2, .pointer (some ⟨p, 0, none⟩), .pointer (some ⟨g, 0, none⟩), .int .i64 ((k : Nat) : Int), .pointer (some ⟨q, 0, none⟩), u7, .bool true, x9, x10, x11, x12, u13, u14, u15, u16, u17, u18, u19, u20, u21, u22, u23, u24, u25, u26, u27, u28, u29, u30, u31, u32, u33, u34, u35, u36, u37, u38, u39, u40, u41, u42, u43, u44, u45, u46, u47, u48, u49, u50, u51, u52, u53, u54, u55, u56, u57, x58, x59, x60, x61, x62, x63, x64, x65, x66, x67, x68, x69, x70, x71, x72, x73, x74, x75, x76, x77, x78, x79, x80, x81, x82, x83, x84, x85, x86, x87, x88, x89, x90, x91, x92, x93, x94, x95, x96, x97, x98, x99, x100, x101, x102, x103, x104, x105, x106, x107, x108, x109, x110, x111, x112, x113, x114, x115, x116, x117, x118, x119, x120, x121, x122, x123, x124, x125, x126, x127, x128, x129, x130, x131, x132, x133, x134, x135, x136, x137, x138, x139, x140, x141, x142, x143, x144, x145, x146, x147, x148, x149, x150, x151, x152, x153, x154, x155, u156, u157, u158, u159, u160, u161, u162, u163, u164, u165, u166, u167, u168, u169, u170, u171, u172, u173, u174, u175, u176, u177, u178, u179, u180, u181, u182, u183, u184, u185, u186, u187, u188, u189, u190, u191, u192, u193, u194, u195, u196, u197, u198, u199, u200, u201, u202, u203, u204, u205, u206, u207, u208, u209, u210, u211, u212, u213, u214, u215, u216, u217, u218, u219, u220, u221, u222, u223, u224, u225, u226, u227, u228, u229, u230, u231, u232, u233, u234, u235, u236, u237, u238, u239, u240], []⟩ w1) :
    Code.wp Tryd.prog (cut [1, 1, 1, 0, 1, 2, 5, 1, 0, 2, 1, 1, 1, 0] (Tryd.f4.body.getD .skip)) Q ⟨#[.slice a1 n1 c1, u1, u2, .pointer (some ⟨p, 0, none⟩), .pointer (some ⟨g, 0, none⟩), .int .i64 ((k : Nat) : Int), .pointer (some ⟨q, 0, none⟩), u7, .bool false, u9, u10, u11, u12, u13, u14, u15, u16, u17, u18, u19, u20, u21, u22, u23, u24, u25, u26, u27, u28, u29, u30, u31, u32, u33, u34, u35, u36, u37, u38, u39, u40, u41, u42, u43, u44, u45, u46, u47, u48, u49, u50, u51, u52, u53, u54, u55, u56, u57, u58, u59, u60, u61, u62, u63, u64, u65, u66, u67, u68, u69, u70, u71, u72, u73, u74, u75, u76, u77, u78, u79, u80, u81, u82, u83, u84, u85, u86, u87, u88, u89, u90, u91, u92, u93, u94, u95, u96, u97, u98, u99, u100, u101, u102, u103, u104, u105, u106, u107, u108, u109, u110, u111, u112, u113, u114, u115, u116, u117, u118, u119, u120, u121, u122, u123, u124, u125, u126, u127, u128, u129, u130, u131, u132, u133, u134, u135, u136, u137, u138, u139, u140, u141, u142, u143, u144, u145, u146, u147, u148, u149, u150, u151, u152, u153, u154, u155, u156, u157, u158, u159, u160, u161, u162, u163, u164, u165, u166, u167, u168, u169, u170, u171, u172, u173, u174, u175, u176, u177, u178, u179, u180, u181, u182, u183, u184, u185, u186, u187, u188, u189, u190, u191, u192, u193, u194, u195, u196, u197, u198, u199, u200, u201, u202, u203, u204, u205, u206, u207, u208, u209, u210, u211, u212, u213, u214, u215, u216, u217, u218, u219, u220, u221, u222, u223, u224, u225, u226, u227, u228, u229, u230, u231, u232, u233, u234, u235, u236, u237, u238, u239, u240], []⟩ wc := by
  conv => arg 2; whnf
  have c0 := hV.at 0 (by omega)
  have HQ : Hid _ := hQ
  have HE : Hid (∀ (kk : Nat) (w2 : World), Below w.heap.size w w2 → Calls Tryd.prog 7 #[errV kk, .int .i64 ((kk : Nat) : Int)] w2 fun e w' => e = .returned (.bool true) ∧ Below w2.heap.size w2 w') := fun kk w2 h => err_v kk w2 (HG.out.old h)
  clear hQ
  rw [h0] at c0
  clear h0

  have X0 := hS.old (below_dr wc)
  have V0 := hV.old (below_dr wc)
  have S0 := V0.cells3
  have HO : Hid (t.hold (v 1) (v 2) (v 3)).ok := hS.vl.ok.hold (v 1) (v 2) (v 3)
  clear hS hV
  obtain ⟨f, hf⟩ : ∃ f, t.holdE (v 1) (v 2) (v 3) = f := ⟨_, rfl⟩
  obtain ⟨t2, ht2⟩ : ∃ t2, t.hold (v 1) (v 2) (v 3) = t2 := ⟨_, rfl⟩
  have A := vhold X0.vl.isv X0.vl.ok (v 1) (v 2) (v 3)
  rw [hf, ht2] at A
  rw [ht2] at HO
  have HD : Hid (∀ W, WL w p g t2 t W → Calls Tryd.prog 28 #[.pointer (some ⟨g, 0, none⟩), .int .i64 (v 1), .int .i64 (v 2), .int .i64 (v 3)] W fun e w' => e = .returned (.int .i64 ((f : Nat) : Int)) ∧ IsW w' g t2 ∧ But (· = g) W w') := fun W h => by
    have := dhold h.doc (v 1) (v 2) (v 3)
    rw [hf, ht2] at this
    exact this
  clear hf ht2
  go_wp2
  go_region_held3 (fun W => W.cell? ⟨q, 1, none⟩ = some (.int .i64 (v 1)) ∧ W.cell? ⟨q, 2, none⟩ = some (.int .i64 (v 2)) ∧ W.cell? ⟨q, 3, none⟩ = some (.int .i64 (v 3))) (first | exact S4 | exact S3 | exact S2 | exact S0) ((first
    | (go_at_call 27; refine A.mono ?_; rintro e w2 ⟨rfl, hI2, hb2⟩; have X2 := X0.on hI2 hb2 HO.out; have V2 := V0.but hb2 (fun _ => .inl); have S2 := V2.cells3)
    | (go_at_call 28; refine (HD.out w2 X2).mono ?_; rintro e w3 ⟨rfl, hI3, hb3⟩; have X3 := X2.onD hI3 hb3; have V3 := V2.but hb3 (fun _ => .inr); have S3 := V3.cells3)
    | (go_at_call 7; refine (HE.out f w3 X3.low).mono ?_; rintro e w4 ⟨rfl, hB4⟩; have X4 := X3.old hB4; have V4 := V3.old hB4; have S4 := V4.cells3)))
  have HX4 : Hid (WL w p g t2 t2 w4) := X4
  have HV4 : Hid (VN w (WF p g) q 4 w4 v) := V4
  clear X0 X2 X3 X4 V0 V2 V3 V4 S0 S2 S3 S4 hI2 hb2 hI3 hb3 hB4 A HD HE HO c0
  go_wp2
  exact HQ.out _ _ _ _ _ _ _ _ _ _ _ _ _ _ _ _ _ _ _ _ _ _ _ _ _ _ _ _ _ _ _ _ _ _ _ _ _ _ _ _ _ _ _ _ _ _ _ _ _ _ _ _ _ _ _ _ _ _ _ _ _ _ _ _ _ _ _ _ _ _ _ _ _ _ _ _ _ _ _ _ _ _ _ _ _ _ _ _ _ _ _ _ _ _ _ _ _ _ _ _ _ _ _ _ HX4.out HV4.out

set_option linter.unusedVariables false in
set_option maxRecDepth 1000000 in
set_option maxHeartbeats 4000000 in
theorem r_w4 (n1 c1 p g : Nat) (a1 : Option Addr) (w : World) (k q : Nat) (t : Rsv) (v : Nat → Int) (u1 u2 u7 u9 u10 u11 u12 u13 u14 u15 u16 u17 u18 u19 u20 u21 u22 u23 u24 u25 u26 u27 u28 u29 u30 u31 u32 u33 u34 u35 u36 u37 u38 u39 u40 u41 u42 u43 u44 u45 u46 u47 u48 u49 u50 u51 u52 u53 u54 u55 u56 u57 u58 u59 u60 u61 u62 u63 u64 u65 u66 u67 u68 u69 u70 u71 u72 u73 u74 u75 u76 u77 u78 u79 u80 u81 u82 u83 u84 u85 u86 u87 u88 u89 u90 u91 u92 u93 u94 u95 u96 u97 u98 u99 u100 u101 u102 u103 u104 u105 u106 u107 u108 u109 u110 u111 u112 u113 u114 u115 u116 u117 u118 u119 u120 u121 u122 u123 u124 u125 u126 u127 u128 u129 u130 u131 u132 u133 u134 u135 u136 u137 u138 u139 u140 u141 u142 u143 u144 u145 u146 u147 u148 u149 u150 u151 u152 u153 u154 u155 u156 u157 u158 u159 u160 u161 u162 u163 u164 u165 u166 u167 u168 u169 u170 u171 u172 u173 u174 u175 u176 u177 u178 u179 u180 u181 u182 u183 u184 u185 u186 u187 u188 u189 u190 u191 u192 u193 u194 u195 u196 u197 u198 u199 u200 u201 u202 u203 u204 u205 u206 u207 u208 u209 u210 u211 u212 u213 u214 u215 u216 u217 u218 u219 u220 u221 u222 u223 u224 u225 u226 u227 u228 u229 u230 u231 u232 u233 u234 u235 u236 u237 u238 u239 u240 : Value) (wc : World) (Q : Exit → Act → World → Prop)
    (HG : Hid (Handle w)) (hS : WL w p g t t wc) (hV : VN w (WF p g) q 4 wc v) (h0 : v 0 = 4)
    (hQ : ∀ (x9 x10 x11 x12 x58 x59 x60 x61 x62 x63 x64 x65 x66 x67 x68 x69 x70 x71 x72 x73 x74 x75 x76 x77 x78 x79 x80 x81 x82 x83 x84 x85 x86 x87 x88 x89 x90 x91 x92 x93 x94 x95 x96 x97 x98 x99 x100 x101 x102 x103 x104 x105 x106 x107 x108 x109 x110 x111 x112 x113 x114 x115 x116 x117 x118 x119 x120 x121 x122 x123 x124 x125 x126 x127 x128 x129 x130 x131 x132 x133 x134 x135 x136 x137 x138 x139 x140 x141 x142 x143 x144 x145 x146 x147 x148 x149 x150 x151 x152 x153 x154 x155 : Value) (t' : Rsv) (w1 : World), WL w p g t' t' w1 → VN w (WF p g) q 4 w1 v → Q .normal ⟨#[.slice a1 n1 c1, u1, u2, .pointer (some ⟨p, 0, none⟩), .pointer (some ⟨g, 0, none⟩), .int .i64 ((k : Nat) : Int), .pointer (some ⟨q, 0, none⟩), u7, .bool true, x9, x10, x11, x12, u13, u14, u15, u16, u17, u18, u19, u20, u21, u22, u23, u24, u25, u26, u27, u28, u29, u30, u31, u32, u33, u34, u35, u36, u37, u38, u39, u40, u41, u42, u43, u44, u45, u46, u47, u48, u49, u50, u51, u52, u53, u54, u55, u56, u57, x58, x59, x60, x61, x62, x63, x64, x65, x66, x67, x68, x69, x70, x71, x72, x73, x74, x75, x76, x77, x78, x79, x80, x81, x82, x83, x84, x85, x86, x87, x88, x89, x90, x91, x92, x93, x94, x95, x96, x97, x98, x99, x100, x101, x102, x103, x104, x105, x106, x107, x108, x109, x110, x111, x112, x113, x114, x115, x116, x117, x118, x119, x120, x121, x122, x123, x124, x125, x126, x127, x128, x129, x130, x131, x132, x133, x134, x135, x136, x137, x138, x139, x140, x141, x142, x143, x144, x145, x146, x147, x148, x149, x150, x151, x152, x153, x154, x155, u156, u157, u158, u159, u160, u161, u162, u163, u164, u165, u166, u167, u168, u169, u170, u171, u172, u173, u174, u175, u176, u177, u178, u179, u180, u181, u182, u183, u184, u185, u186, u187, u188, u189, u190, u191, u192, u193, u194, u195, u196, u197, u198, u199, u200, u201, u202, u203, u204, u205, u206, u207, u208, u209, u210, u211, u212, u213, u214, u215, u216, u217, u218, u219, u220, u221, u222, u223, u224, u225, u226, u227, u228, u229, u230, u231, u232, u233, u234, u235, u236, u237, u238, u239, u240], []⟩ w1) :
    Code.wp Tryd.prog (cut [1, 1, 1, 0, 1, 2, 5, 1, 0, 2, 1, 1, 1, 0] (Tryd.f4.body.getD .skip)) Q ⟨#[.slice a1 n1 c1, u1, u2, .pointer (some ⟨p, 0, none⟩), .pointer (some ⟨g, 0, none⟩), .int .i64 ((k : Nat) : Int), .pointer (some ⟨q, 0, none⟩), u7, .bool false, u9, u10, u11, u12, u13, u14, u15, u16, u17, u18, u19, u20, u21, u22, u23, u24, u25, u26, u27, u28, u29, u30, u31, u32, u33, u34, u35, u36, u37, u38, u39, u40, u41, u42, u43, u44, u45, u46, u47, u48, u49, u50, u51, u52, u53, u54, u55, u56, u57, u58, u59, u60, u61, u62, u63, u64, u65, u66, u67, u68, u69, u70, u71, u72, u73, u74, u75, u76, u77, u78, u79, u80, u81, u82, u83, u84, u85, u86, u87, u88, u89, u90, u91, u92, u93, u94, u95, u96, u97, u98, u99, u100, u101, u102, u103, u104, u105, u106, u107, u108, u109, u110, u111, u112, u113, u114, u115, u116, u117, u118, u119, u120, u121, u122, u123, u124, u125, u126, u127, u128, u129, u130, u131, u132, u133, u134, u135, u136, u137, u138, u139, u140, u141, u142, u143, u144, u145, u146, u147, u148, u149, u150, u151, u152, u153, u154, u155, u156, u157, u158, u159, u160, u161, u162, u163, u164, u165, u166, u167, u168, u169, u170, u171, u172, u173, u174, u175, u176, u177, u178, u179, u180, u181, u182, u183, u184, u185, u186, u187, u188, u189, u190, u191, u192, u193, u194, u195, u196, u197, u198, u199, u200, u201, u202, u203, u204, u205, u206, u207, u208, u209, u210, u211, u212, u213, u214, u215, u216, u217, u218, u219, u220, u221, u222, u223, u224, u225, u226, u227, u228, u229, u230, u231, u232, u233, u234, u235, u236, u237, u238, u239, u240], []⟩ wc := by
  conv => arg 2; whnf
  have c0 := hV.at 0 (by omega)
  have HQ : Hid _ := hQ
  have HE : Hid (∀ (kk : Nat) (w2 : World), Below w.heap.size w w2 → Calls Tryd.prog 7 #[errV kk, .int .i64 ((kk : Nat) : Int)] w2 fun e w' => e = .returned (.bool true) ∧ Below w2.heap.size w2 w') := fun kk w2 h => err_v kk w2 (HG.out.old h)
  clear hQ
  rw [h0] at c0
  clear h0

  have X0 := hS.old (below_dr wc)
  have V0 := hV.old (below_dr wc)
  have S0 := V0.cells3
  have HO : Hid (t.hold (v 1) (v 2) (v 3)).ok := hS.vl.ok.hold (v 1) (v 2) (v 3)
  clear hS hV
  obtain ⟨f, hf⟩ : ∃ f, t.holdE (v 1) (v 2) (v 3) = f := ⟨_, rfl⟩
  obtain ⟨t2, ht2⟩ : ∃ t2, t.hold (v 1) (v 2) (v 3) = t2 := ⟨_, rfl⟩
  have A := vhold X0.vl.isv X0.vl.ok (v 1) (v 2) (v 3)
  rw [hf, ht2] at A
  rw [ht2] at HO
  have HD : Hid (∀ W, WL w p g t2 t W → Calls Tryd.prog 28 #[.pointer (some ⟨g, 0, none⟩), .int .i64 (v 1), .int .i64 (v 2), .int .i64 (v 3)] W fun e w' => e = .returned (.int .i64 ((f : Nat) : Int)) ∧ IsW w' g t2 ∧ But (· = g) W w') := fun W h => by
    have := dhold h.doc (v 1) (v 2) (v 3)
    rw [hf, ht2] at this
    exact this
  clear hf ht2
  go_wp2
  go_region_held3 (fun W => W.cell? ⟨q, 1, none⟩ = some (.int .i64 (v 1)) ∧ W.cell? ⟨q, 2, none⟩ = some (.int .i64 (v 2)) ∧ W.cell? ⟨q, 3, none⟩ = some (.int .i64 (v 3))) (first | exact S4 | exact S3 | exact S2 | exact S0) ((first
    | (go_at_call 27; refine A.mono ?_; rintro e w2 ⟨rfl, hI2, hb2⟩; have X2 := X0.on hI2 hb2 HO.out; have V2 := V0.but hb2 (fun _ => .inl); have S2 := V2.cells3)
    | (go_at_call 28; refine (HD.out w2 X2).mono ?_; rintro e w3 ⟨rfl, hI3, hb3⟩; have X3 := X2.onD hI3 hb3; have V3 := V2.but hb3 (fun _ => .inr); have S3 := V3.cells3)
    | (go_at_call 7; refine (HE.out f w3 X3.low).mono ?_; rintro e w4 ⟨rfl, hB4⟩; have X4 := X3.old hB4; have V4 := V3.old hB4; have S4 := V4.cells3)))
  have HX4 : Hid (WL w p g t2 t2 w4) := X4
  have HV4 : Hid (VN w (WF p g) q 4 w4 v) := V4
  clear X0 X2 X3 X4 V0 V2 V3 V4 S0 S2 S3 S4 hI2 hb2 hI3 hb3 hB4 A HD HE HO c0
  go_wp2
  exact HQ.out _ _ _ _ _ _ _ _ _ _ _ _ _ _ _ _ _ _ _ _ _ _ _ _ _ _ _ _ _ _ _ _ _ _ _ _ _ _ _ _ _ _ _ _ _ _ _ _ _ _ _ _ _ _ _ _ _ _ _ _ _ _ _ _ _ _ _ _ _ _ _ _ _ _ _ _ _ _ _ _ _ _ _ _ _ _ _ _ _ _ _ _ _ _ _ _ _ _ _ _ _ _ _ _ HX4.out HV4.out
end Go.Proofs.YtfeikmmojilmbaaDoor
