/- IntentCovers, a piece: walks over the program. -/
import Derived.Test.YtilfjahbdlepjaaICb
namespace Go.Proofs.Ytilfjahbdlepjaa
open Go.RowKit Go.Maps
set_option linter.unusedVariables false in
set_option maxRecDepth 1000000 in
set_option maxHeartbeats 4000000 in
theorem c_begin0 (wide n1 c1 p b g : Nat) (a1 : Option Addr) (w : World) (k q N : Nat) (t : Itn) (v : Nat → Int) (u2 u3 u4 u5 u6 u7 u8 u10 u14 u15 u16 u17 u18 u19 u20 u21 u22 u23 u24 u25 u26 u27 u28 u29 u30 u31 u32 u33 u34 u35 u36 u37 u38 u39 u40 u41 u42 u43 u44 u45 u46 u47 u48 u49 u50 u51 u52 u53 u54 u55 u56 u57 u58 u59 u60 u61 u62 u63 u64 u65 u66 u67 u68 u69 u70 u71 u72 u73 u74 u75 u76 u77 u78 u79 u80 u81 u82 u83 u84 u85 u86 u87 u88 u89 u90 u91 u92 u93 u94 u95 u96 u97 u98 u99 u100 u101 u102 u103 u104 u105 u106 u107 u108 u109 u110 u111 u112 u113 u114 u115 u116 u117 u118 u119 u120 u121 u122 u123 u124 u125 u126 u127 u128 u129 u130 u131 u132 u133 u134 u135 u136 u137 u138 u139 u140 u141 u142 u143 u144 u145 u146 u147 u148 u149 u150 u151 u152 u153 u154 u155 u156 u157 u158 u159 u160 u161 u162 u163 u164 u165 u166 u167 u168 u169 u170 u171 u172 u173 u174 u175 u176 u177 u178 u179 u180 u181 u182 u183 u184 u185 u186 u187 u188 u189 u190 u191 u192 u193 u194 u195 u196 u197 u198 u199 u200 u201 u202 u203 u204 u205 u206 u207 u208 u209 u210 u211 u212 u213 u214 u215 u216 u217 u218 u219 u220 u221 : Value) (wc : World) (Q : Exit → Act → World → Prop)
    (h1 : 1 ≤ wide) (h2 : wide ≤ 40) (hN : N ≤ 900) (hS : CX w p b g wide t N wc) (hV : VN w (CF p b g) q 2 wc v) (h0 : v 0 = 0)
    (hQ : ∀ (x4 x15 x16 x17 x18 x19 x105 x106 x107 x108 x109 x110 x111 x112 x113 x114 x115 x116 x117 x118 x119 x120 x121 x122 x123 x124 x125 x126 x127 x128 x129 x130 x131 x132 x133 x134 x135 x136 x137 x138 x139 x140 x141 x142 x143 x144 x145 x146 x147 x148 x149 x150 x151 x152 x153 x154 x155 x156 x157 x158 x159 x160 x161 x162 x163 x164 x165 x166 x167 x168 x169 x170 x171 x172 x173 x174 x175 x176 x177 x178 x179 x180 x181 x182 x183 x184 x185 x186 x187 x188 x189 x190 : Value) (t' : Itn) (N' : Nat) (w1 : World), CX w p b g wide t' N' w1 → N' ≤ N + 1 → Q .normal ⟨#[.int .i64 wide, .slice a1 n1 c1, u2, u3, x4, u5, u6, u7, u8, .pointer (some ⟨p, 0, none⟩), u10, .pointer (some ⟨g, 0, none⟩), .int .i64 ((k : Nat) : Int), .pointer (some ⟨q, 0, none⟩), u14, x15, x16, x17, x18, x19, u20, u21, u22, u23, u24, u25, u26, u27, u28, u29, u30, u31, u32, u33, u34, u35, u36, u37, u38, u39, u40, u41, u42, u43, u44, u45, u46, u47, u48, u49, u50, u51, u52, u53, u54, u55, u56, u57, u58, u59, u60, u61, u62, u63, u64, u65, u66, u67, u68, u69, u70, u71, u72, u73, u74, u75, u76, u77, u78, u79, u80, u81, u82, u83, u84, u85, u86, u87, u88, u89, u90, u91, u92, u93, u94, u95, u96, u97, u98, u99, u100, u101, u102, u103, u104, x105, x106, x107, x108, x109, x110, x111, x112, x113, x114, x115, x116, x117, x118, x119, x120, x121, x122, x123, x124, x125, x126, x127, x128, x129, x130, x131, x132, x133, x134, x135, x136, x137, x138, x139, x140, x141, x142, x143, x144, x145, x146, x147, x148, x149, x150, x151, x152, x153, x154, x155, x156, x157, x158, x159, x160, x161, x162, x163, x164, x165, x166, x167, x168, x169, x170, x171, x172, x173, x174, x175, x176, x177, x178, x179, x180, x181, x182, x183, x184, x185, x186, x187, x188, x189, x190, u191, u192, u193, u194, u195, u196, u197, u198, u199, u200, u201, u202, u203, u204, u205, u206, u207, u208, u209, u210, u211, u212, u213, u214, u215, u216, u217, u218, u219, u220, u221], []⟩ w1) :
    Code.wp Try.prog (cut [1, 1, 1, 1, 1, 1, 1, 1, 1, 1, 0, 1, 2, 5, 1, 0, 2, 1, 1, 0] (Try.f3.body.getD .skip)) Q ⟨#[.int .i64 wide, .slice a1 n1 c1, u2, u3, u4, u5, u6, u7, u8, .pointer (some ⟨p, 0, none⟩), u10, .pointer (some ⟨g, 0, none⟩), .int .i64 ((k : Nat) : Int), .pointer (some ⟨q, 0, none⟩), u14, u15, u16, u17, u18, u19, u20, u21, u22, u23, u24, u25, u26, u27, u28, u29, u30, u31, u32, u33, u34, u35, u36, u37, u38, u39, u40, u41, u42, u43, u44, u45, u46, u47, u48, u49, u50, u51, u52, u53, u54, u55, u56, u57, u58, u59, u60, u61, u62, u63, u64, u65, u66, u67, u68, u69, u70, u71, u72, u73, u74, u75, u76, u77, u78, u79, u80, u81, u82, u83, u84, u85, u86, u87, u88, u89, u90, u91, u92, u93, u94, u95, u96, u97, u98, u99, u100, u101, u102, u103, u104, u105, u106, u107, u108, u109, u110, u111, u112, u113, u114, u115, u116, u117, u118, u119, u120, u121, u122, u123, u124, u125, u126, u127, u128, u129, u130, u131, u132, u133, u134, u135, u136, u137, u138, u139, u140, u141, u142, u143, u144, u145, u146, u147, u148, u149, u150, u151, u152, u153, u154, u155, u156, u157, u158, u159, u160, u161, u162, u163, u164, u165, u166, u167, u168, u169, u170, u171, u172, u173, u174, u175, u176, u177, u178, u179, u180, u181, u182, u183, u184, u185, u186, u187, u188, u189, u190, u191, u192, u193, u194, u195, u196, u197, u198, u199, u200, u201, u202, u203, u204, u205, u206, u207, u208, u209, u210, u211, u212, u213, u214, u215, u216, u217, u218, u219, u220, u221], []⟩ wc := by
  conv => arg 2; whnf
  have c0 := hV.at 0 (by omega)
  have c1 := hV.at 1 (by omega)
  obtain ⟨hC, hCov, hw⟩ := hS
  have HQ : Hid _ := hQ
  have HC : Hid (CS w p b g t N t.many wc) := hC
  have HCov : Hid (Itn.Cov t) := hCov
  have HW : Hid (t.wide = wide) := hw
  have HV : Hid (VN w (CF p b g) q 2 wc v) := hV
  clear hQ hC hCov hw hV
  rw [h0] at c0
  clear h0

  by_cases hno : Itn.noC (v 1)
  · have C := ibegin_no wc p t (v 1) hno
    have e3 : Itn.beginE (v 1) = 1 := if_pos hno
    rw [e3, errV, if_neg (by omega)] at C
    generalize t.beginB (v 1) = tb at *
    clear e3 hno
    generalize v 1 = z at *
    go_wp2_with fail
    refine C.mono ?_
    rintro e w2 ⟨rfl, hw2⟩
    obtain rfl := hw2.symm
    clear C hw2
    go_wp2
    exact HQ.out _ _ _ _ _ _ _ _ _ _ _ _ _ _ _ _ _ _ _ _ _ _ _ _ _ _ _ _ _ _ _ _ _ _ _ _ _ _ _ _ _ _ _ _ _ _ _ _ _ _ _ _ _ _ _ _ _ _ _ _ _ _ _ _ _ _ _ _ _ _ _ _ _ _ _ _ _ _ _ _ _ _ _ _ _ _ _ _ _ _ _ _ t N _ ⟨HC.out, HCov.out, HW.out⟩ (Nat.le_succ _)
  · obtain ⟨m, hm, hm40⟩ := Itn.noC_nat hno
    have C := ibegin_ok HC.out.il.int (by omega) m hm40
    have e3 : Itn.beginE m = 0 := if_neg (noC_of hm40)
    rw [e3, errV, if_pos rfl] at C
    have hmz : (m : Int) < 40 := by omega
    have HM : Hid (v 1 = (m : Int)) := hm
    have HB : Hid ((t.begin' (m : Int)).many = up t.many m (t.many m + 1)) := by
      (show _ = _)
      unfold Itn.begin'
      rw [if_neg (noC_of hm40), Int.toNat_natCast]
    have HBw : Hid ((t.begin' (m : Int)).wide = wide) := by
      (show _ = _)
      unfold Itn.begin'
      rw [if_neg (noC_of hm40)]
      exact HW.out
    generalize t.beginB m = tb at *
    rw [hm] at c1
    clear e3 hno hm
    have hle := HC.out.il.int.le m
    have hlez : ((t.many m : Nat) : Int) ≤ 900 := by omega
    go_wp2_with fail
    refine C.mono ?_
    rintro e w2 ⟨rfl, hI2, hb2⟩
    have S2 := HC.out.on hI2 hb2
    have V2 := HV.out.but hb2 (fun _ => IF_CF)
    have c1 := V2.at 1 (by omega)
    rw [HM.out] at c1
    obtain ⟨k1, k2⟩ := S2.row.2 m hm40
    dsimp only at k1
    have S3 := S2.count m (t.many m + 1)
    have HS3 : Hid (CX w p b g wide (t.begin' (m : Int)) (N + 1) (w2.setCell ⟨g, m, none⟩ (.int .i64 ((t.many m + 1 : Nat) : Int)))) := ⟨by rw [HB.out]; exact S3, HCov.out.begin' _, HBw.out⟩
    clear C hI2 hb2 S2 S3 V2 HC HCov HW HV HB HBw c0
    generalize t.many m = mm at *
    go_wp2
    exact HQ.out _ _ _ _ _ _ _ _ _ _ _ _ _ _ _ _ _ _ _ _ _ _ _ _ _ _ _ _ _ _ _ _ _ _ _ _ _ _ _ _ _ _ _ _ _ _ _ _ _ _ _ _ _ _ _ _ _ _ _ _ _ _ _ _ _ _ _ _ _ _ _ _ _ _ _ _ _ _ _ _ _ _ _ _ _ _ _ _ _ _ _ _ _ _ _ HS3.out (Nat.le_refl _)

set_option linter.unusedVariables false in
set_option maxRecDepth 1000000 in
set_option maxHeartbeats 4000000 in
theorem c_begin1 (wide n1 c1 p b g : Nat) (a1 : Option Addr) (w : World) (k q N : Nat) (t : Itn) (v : Nat → Int) (u2 u3 u4 u5 u6 u7 u8 u10 u14 u15 u16 u17 u18 u19 u20 u21 u22 u23 u24 u25 u26 u27 u28 u29 u30 u31 u32 u33 u34 u35 u36 u37 u38 u39 u40 u41 u42 u43 u44 u45 u46 u47 u48 u49 u50 u51 u52 u53 u54 u55 u56 u57 u58 u59 u60 u61 u62 u63 u64 u65 u66 u67 u68 u69 u70 u71 u72 u73 u74 u75 u76 u77 u78 u79 u80 u81 u82 u83 u84 u85 u86 u87 u88 u89 u90 u91 u92 u93 u94 u95 u96 u97 u98 u99 u100 u101 u102 u103 u104 u105 u106 u107 u108 u109 u110 u111 u112 u113 u114 u115 u116 u117 u118 u119 u120 u121 u122 u123 u124 u125 u126 u127 u128 u129 u130 u131 u132 u133 u134 u135 u136 u137 u138 u139 u140 u141 u142 u143 u144 u145 u146 u147 u148 u149 u150 u151 u152 u153 u154 u155 u156 u157 u158 u159 u160 u161 u162 u163 u164 u165 u166 u167 u168 u169 u170 u171 u172 u173 u174 u175 u176 u177 u178 u179 u180 u181 u182 u183 u184 u185 u186 u187 u188 u189 u190 u191 u192 u193 u194 u195 u196 u197 u198 u199 u200 u201 u202 u203 u204 u205 u206 u207 u208 u209 u210 u211 u212 u213 u214 u215 u216 u217 u218 u219 u220 u221 : Value) (wc : World) (Q : Exit → Act → World → Prop)
    (h1 : 1 ≤ wide) (h2 : wide ≤ 40) (hN : N ≤ 900) (hS : CX w p b g wide t N wc) (hV : VN w (CF p b g) q 2 wc v) (h0 : v 0 = 1)
    (hQ : ∀ (x4 x15 x16 x17 x18 x19 x105 x106 x107 x108 x109 x110 x111 x112 x113 x114 x115 x116 x117 x118 x119 x120 x121 x122 x123 x124 x125 x126 x127 x128 x129 x130 x131 x132 x133 x134 x135 x136 x137 x138 x139 x140 x141 x142 x143 x144 x145 x146 x147 x148 x149 x150 x151 x152 x153 x154 x155 x156 x157 x158 x159 x160 x161 x162 x163 x164 x165 x166 x167 x168 x169 x170 x171 x172 x173 x174 x175 x176 x177 x178 x179 x180 x181 x182 x183 x184 x185 x186 x187 x188 x189 x190 : Value) (t' : Itn) (N' : Nat) (w1 : World), CX w p b g wide t' N' w1 → N' ≤ N + 1 → Q .normal ⟨#[.int .i64 wide, .slice a1 n1 c1, u2, u3, x4, u5, u6, u7, u8, .pointer (some ⟨p, 0, none⟩), u10, .pointer (some ⟨g, 0, none⟩), .int .i64 ((k : Nat) : Int), .pointer (some ⟨q, 0, none⟩), u14, x15, x16, x17, x18, x19, u20, u21, u22, u23, u24, u25, u26, u27, u28, u29, u30, u31, u32, u33, u34, u35, u36, u37, u38, u39, u40, u41, u42, u43, u44, u45, u46, u47, u48, u49, u50, u51, u52, u53, u54, u55, u56, u57, u58, u59, u60, u61, u62, u63, u64, u65, u66, u67, u68, u69, u70, u71, u72, u73, u74, u75, u76, u77, u78, u79, u80, u81, u82, u83, u84, u85, u86, u87, u88, u89, u90, u91, u92, u93, u94, u95, u96, u97, u98, u99, u100, u101, u102, u103, u104, x105, x106, x107, x108, x109, x110, x111, x112, x113, x114, x115, x116, x117, x118, x119, x120, x121, x122, x123, x124, x125, x126, x127, x128, x129, x130, x131, x132, x133, x134, x135, x136, x137, x138, x139, x140, x141, x142, x143, x144, x145, x146, x147, x148, x149, x150, x151, x152, x153, x154, x155, x156, x157, x158, x159, x160, x161, x162, x163, x164, x165, x166, x167, x168, x169, x170, x171, x172, x173, x174, x175, x176, x177, x178, x179, x180, x181, x182, x183, x184, x185, x186, x187, x188, x189, x190, u191, u192, u193, u194, u195, u196, u197, u198, u199, u200, u201, u202, u203, u204, u205, u206, u207, u208, u209, u210, u211, u212, u213, u214, u215, u216, u217, u218, u219, u220, u221], []⟩ w1) :
    Code.wp Try.prog (cut [1, 1, 1, 1, 1, 1, 1, 1, 1, 1, 0, 1, 2, 5, 1, 0, 2, 1, 1, 0] (Try.f3.body.getD .skip)) Q ⟨#[.int .i64 wide, .slice a1 n1 c1, u2, u3, u4, u5, u6, u7, u8, .pointer (some ⟨p, 0, none⟩), u10, .pointer (some ⟨g, 0, none⟩), .int .i64 ((k : Nat) : Int), .pointer (some ⟨q, 0, none⟩), u14, u15, u16, u17, u18, u19, u20, u21, u22, u23, u24, u25, u26, u27, u28, u29, u30, u31, u32, u33, u34, u35, u36, u37, u38, u39, u40, u41, u42, u43, u44, u45, u46, u47, u48, u49, u50, u51, u52, u53, u54, u55, u56, u57, u58, u59, u60, u61, u62, u63, u64, u65, u66, u67, u68, u69, u70, u71, u72, u73, u74, u75, u76, u77, u78, u79, u80, u81, u82, u83, u84, u85, u86, u87, u88, u89, u90, u91, u92, u93, u94, u95, u96, u97, u98, u99, u100, u101, u102, u103, u104, u105, u106, u107, u108, u109, u110, u111, u112, u113, u114, u115, u116, u117, u118, u119, u120, u121, u122, u123, u124, u125, u126, u127, u128, u129, u130, u131, u132, u133, u134, u135, u136, u137, u138, u139, u140, u141, u142, u143, u144, u145, u146, u147, u148, u149, u150, u151, u152, u153, u154, u155, u156, u157, u158, u159, u160, u161, u162, u163, u164, u165, u166, u167, u168, u169, u170, u171, u172, u173, u174, u175, u176, u177, u178, u179, u180, u181, u182, u183, u184, u185, u186, u187, u188, u189, u190, u191, u192, u193, u194, u195, u196, u197, u198, u199, u200, u201, u202, u203, u204, u205, u206, u207, u208, u209, u210, u211, u212, u213, u214, u215, u216, u217, u218, u219, u220, u221], []⟩ wc := by
  conv => arg 2; whnf
  have c0 := hV.at 0 (by omega)
  have c1 := hV.at 1 (by omega)
  obtain ⟨hC, hCov, hw⟩ := hS
  have HQ : Hid _ := hQ
  have HC : Hid (CS w p b g t N t.many wc) := hC
  have HCov : Hid (Itn.Cov t) := hCov
  have HW : Hid (t.wide = wide) := hw
  have HV : Hid (VN w (CF p b g) q 2 wc v) := hV
  clear hQ hC hCov hw hV
  rw [h0] at c0
  clear h0

  by_cases hno : Itn.noC (v 1)
  · have C := ibegin_no wc p t (v 1) hno
    have e3 : Itn.beginE (v 1) = 1 := if_pos hno
    rw [e3, errV, if_neg (by omega)] at C
    generalize t.beginB (v 1) = tb at *
    clear e3 hno
    generalize v 1 = z at *
    go_wp2_with fail
    refine C.mono ?_
    rintro e w2 ⟨rfl, hw2⟩
    obtain rfl := hw2.symm
    clear C hw2
    go_wp2
    exact HQ.out _ _ _ _ _ _ _ _ _ _ _ _ _ _ _ _ _ _ _ _ _ _ _ _ _ _ _ _ _ _ _ _ _ _ _ _ _ _ _ _ _ _ _ _ _ _ _ _ _ _ _ _ _ _ _ _ _ _ _ _ _ _ _ _ _ _ _ _ _ _ _ _ _ _ _ _ _ _ _ _ _ _ _ _ _ _ _ _ _ _ _ _ t N _ ⟨HC.out, HCov.out, HW.out⟩ (Nat.le_succ _)
  · obtain ⟨m, hm, hm40⟩ := Itn.noC_nat hno
    have C := ibegin_ok HC.out.il.int (by omega) m hm40
    have e3 : Itn.beginE m = 0 := if_neg (noC_of hm40)
    rw [e3, errV, if_pos rfl] at C
    have hmz : (m : Int) < 40 := by omega
    have HM : Hid (v 1 = (m : Int)) := hm
    have HB : Hid ((t.begin' (m : Int)).many = up t.many m (t.many m + 1)) := by
      (show _ = _)
      unfold Itn.begin'
      rw [if_neg (noC_of hm40), Int.toNat_natCast]
    have HBw : Hid ((t.begin' (m : Int)).wide = wide) := by
      (show _ = _)
      unfold Itn.begin'
      rw [if_neg (noC_of hm40)]
      exact HW.out
    generalize t.beginB m = tb at *
    rw [hm] at c1
    clear e3 hno hm
    have hle := HC.out.il.int.le m
    have hlez : ((t.many m : Nat) : Int) ≤ 900 := by omega
    go_wp2_with fail
    refine C.mono ?_
    rintro e w2 ⟨rfl, hI2, hb2⟩
    have S2 := HC.out.on hI2 hb2
    have V2 := HV.out.but hb2 (fun _ => IF_CF)
    have c1 := V2.at 1 (by omega)
    rw [HM.out] at c1
    obtain ⟨k1, k2⟩ := S2.row.2 m hm40
    dsimp only at k1
    have S3 := S2.count m (t.many m + 1)
    have HS3 : Hid (CX w p b g wide (t.begin' (m : Int)) (N + 1) (w2.setCell ⟨g, m, none⟩ (.int .i64 ((t.many m + 1 : Nat) : Int)))) := ⟨by rw [HB.out]; exact S3, HCov.out.begin' _, HBw.out⟩
    clear C hI2 hb2 S2 S3 V2 HC HCov HW HV HB HBw c0
    generalize t.many m = mm at *
    go_wp2
    exact HQ.out _ _ _ _ _ _ _ _ _ _ _ _ _ _ _ _ _ _ _ _ _ _ _ _ _ _ _ _ _ _ _ _ _ _ _ _ _ _ _ _ _ _ _ _ _ _ _ _ _ _ _ _ _ _ _ _ _ _ _ _ _ _ _ _ _ _ _ _ _ _ _ _ _ _ _ _ _ _ _ _ _ _ _ _ _ _ _ _ _ _ _ _ _ _ _ HS3.out (Nat.le_refl _)

set_option linter.unusedVariables false in
set_option maxRecDepth 1000000 in
set_option maxHeartbeats 4000000 in
theorem c_end (wide n1 c1 p b g : Nat) (a1 : Option Addr) (w : World) (k q N : Nat) (t : Itn) (v : Nat → Int) (u2 u3 u4 u5 u6 u7 u8 u10 u14 u15 u16 u17 u18 u19 u20 u21 u22 u23 u24 u25 u26 u27 u28 u29 u30 u31 u32 u33 u34 u35 u36 u37 u38 u39 u40 u41 u42 u43 u44 u45 u46 u47 u48 u49 u50 u51 u52 u53 u54 u55 u56 u57 u58 u59 u60 u61 u62 u63 u64 u65 u66 u67 u68 u69 u70 u71 u72 u73 u74 u75 u76 u77 u78 u79 u80 u81 u82 u83 u84 u85 u86 u87 u88 u89 u90 u91 u92 u93 u94 u95 u96 u97 u98 u99 u100 u101 u102 u103 u104 u105 u106 u107 u108 u109 u110 u111 u112 u113 u114 u115 u116 u117 u118 u119 u120 u121 u122 u123 u124 u125 u126 u127 u128 u129 u130 u131 u132 u133 u134 u135 u136 u137 u138 u139 u140 u141 u142 u143 u144 u145 u146 u147 u148 u149 u150 u151 u152 u153 u154 u155 u156 u157 u158 u159 u160 u161 u162 u163 u164 u165 u166 u167 u168 u169 u170 u171 u172 u173 u174 u175 u176 u177 u178 u179 u180 u181 u182 u183 u184 u185 u186 u187 u188 u189 u190 u191 u192 u193 u194 u195 u196 u197 u198 u199 u200 u201 u202 u203 u204 u205 u206 u207 u208 u209 u210 u211 u212 u213 u214 u215 u216 u217 u218 u219 u220 u221 : Value) (wc : World) (Q : Exit → Act → World → Prop)
    (h1 : 1 ≤ wide) (h2 : wide ≤ 40) (hN : N ≤ 900) (hS : CX w p b g wide t N wc) (hV : VN w (CF p b g) q 2 wc v) (h0 : v 0 = 2)
    (hQ : ∀ (x4 x15 x16 x17 x18 x19 x105 x106 x107 x108 x109 x110 x111 x112 x113 x114 x115 x116 x117 x118 x119 x120 x121 x122 x123 x124 x125 x126 x127 x128 x129 x130 x131 x132 x133 x134 x135 x136 x137 x138 x139 x140 x141 x142 x143 x144 x145 x146 x147 x148 x149 x150 x151 x152 x153 x154 x155 x156 x157 x158 x159 x160 x161 x162 x163 x164 x165 x166 x167 x168 x169 x170 x171 x172 x173 x174 x175 x176 x177 x178 x179 x180 x181 x182 x183 x184 x185 x186 x187 x188 x189 x190 : Value) (t' : Itn) (N' : Nat) (w1 : World), CX w p b g wide t' N' w1 → N' ≤ N + 1 → Q .normal ⟨#[.int .i64 wide, .slice a1 n1 c1, u2, u3, x4, u5, u6, u7, u8, .pointer (some ⟨p, 0, none⟩), u10, .pointer (some ⟨g, 0, none⟩), .int .i64 ((k : Nat) : Int), .pointer (some ⟨q, 0, none⟩), u14, x15, x16, x17, x18, x19, u20, u21, u22, u23, u24, u25, u26, u27, u28, u29, u30, u31, u32, u33, u34, u35, u36, u37, u38, u39, u40, u41, u42, u43, u44, u45, u46, u47, u48, u49, u50, u51, u52, u53, u54, u55, u56, u57, u58, u59, u60, u61, u62, u63, u64, u65, u66, u67, u68, u69, u70, u71, u72, u73, u74, u75, u76, u77, u78, u79, u80, u81, u82, u83, u84, u85, u86, u87, u88, u89, u90, u91, u92, u93, u94, u95, u96, u97, u98, u99, u100, u101, u102, u103, u104, x105, x106, x107, x108, x109, x110, x111, x112, x113, x114, x115, x116, x117, x118, x119, x120, x121, x122, x123, x124, x125, x126, x127, x128, x129, x130, x131, x132, x133, x134, x135, x136, x137, x138, x139, x140, x141, x142, x143, x144, x145, x146, x147, x148, x149, x150, x151, x152, x153, x154, x155, x156, x157, x158, x159, x160, x161, x162, x163, x164, x165, x166, x167, x168, x169, x170, x171, x172, x173, x174, x175, x176, x177, x178, x179, x180, x181, x182, x183, x184, x185, x186, x187, x188, x189, x190, u191, u192, u193, u194, u195, u196, u197, u198, u199, u200, u201, u202, u203, u204, u205, u206, u207, u208, u209, u210, u211, u212, u213, u214, u215, u216, u217, u218, u219, u220, u221], []⟩ w1) :
    Code.wp Try.prog (cut [1, 1, 1, 1, 1, 1, 1, 1, 1, 1, 0, 1, 2, 5, 1, 0, 2, 1, 1, 0] (Try.f3.body.getD .skip)) Q ⟨#[.int .i64 wide, .slice a1 n1 c1, u2, u3, u4, u5, u6, u7, u8, .pointer (some ⟨p, 0, none⟩), u10, .pointer (some ⟨g, 0, none⟩), .int .i64 ((k : Nat) : Int), .pointer (some ⟨q, 0, none⟩), u14, u15, u16, u17, u18, u19, u20, u21, u22, u23, u24, u25, u26, u27, u28, u29, u30, u31, u32, u33, u34, u35, u36, u37, u38, u39, u40, u41, u42, u43, u44, u45, u46, u47, u48, u49, u50, u51, u52, u53, u54, u55, u56, u57, u58, u59, u60, u61, u62, u63, u64, u65, u66, u67, u68, u69, u70, u71, u72, u73, u74, u75, u76, u77, u78, u79, u80, u81, u82, u83, u84, u85, u86, u87, u88, u89, u90, u91, u92, u93, u94, u95, u96, u97, u98, u99, u100, u101, u102, u103, u104, u105, u106, u107, u108, u109, u110, u111, u112, u113, u114, u115, u116, u117, u118, u119, u120, u121, u122, u123, u124, u125, u126, u127, u128, u129, u130, u131, u132, u133, u134, u135, u136, u137, u138, u139, u140, u141, u142, u143, u144, u145, u146, u147, u148, u149, u150, u151, u152, u153, u154, u155, u156, u157, u158, u159, u160, u161, u162, u163, u164, u165, u166, u167, u168, u169, u170, u171, u172, u173, u174, u175, u176, u177, u178, u179, u180, u181, u182, u183, u184, u185, u186, u187, u188, u189, u190, u191, u192, u193, u194, u195, u196, u197, u198, u199, u200, u201, u202, u203, u204, u205, u206, u207, u208, u209, u210, u211, u212, u213, u214, u215, u216, u217, u218, u219, u220, u221], []⟩ wc := by
  conv => arg 2; whnf
  have c0 := hV.at 0 (by omega)
  have c1 := hV.at 1 (by omega)
  obtain ⟨hC, hCov, hw⟩ := hS
  have HQ : Hid _ := hQ
  have HC : Hid (CS w p b g t N t.many wc) := hC
  have HCov : Hid (Itn.Cov t) := hCov
  have HW : Hid (t.wide = wide) := hw
  have HV : Hid (VN w (CF p b g) q 2 wc v) := hV
  clear hQ hC hCov hw hV
  rw [h0] at c0
  clear h0

  have C := iend HC.out.il.int (by omega) (v 1)
  by_cases he : t.endE (v 1) = 0
  · have hno : ¬ Itn.noC (v 1) := fun q => by unfold Itn.endE at he; rw [if_pos q] at he; omega
    obtain ⟨m, hm, hm40⟩ := Itn.noC_nat hno
    have HM : Hid (v 1 = (m : Int)) := hm
    rw [he, errV, if_pos rfl, hm] at C
    rw [hm] at c1 he
    have hpos : t.many m ≠ 0 := fun q => by unfold Itn.endE at he; rw [if_neg (noC_of hm40), Int.toNat_natCast, if_pos q] at he; omega
    have HB : Hid ((t.end' (m : Int)).many = up t.many m (t.many m - 1)) := by
      (show _ = _)
      unfold Itn.end'
      rw [if_pos he, Int.toNat_natCast]
    have HBw : Hid ((t.end' (m : Int)).wide = wide) := by
      (show _ = _)
      unfold Itn.end'
      rw [if_pos he]
      exact HW.out
    have hmz : (m : Int) < 40 := by omega
    have hle := HC.out.il.int.le m
    have hlez : ((t.many m : Nat) : Int) ≤ 900 := by omega
    have hposz : ((t.many m : Nat) : Int) ≠ 0 := by omega
    clear he hno hm
    go_wp2_with fail
    refine C.mono ?_
    rintro e w2 ⟨rfl, hI2, hb2⟩
    have S2 := HC.out.on hI2 hb2
    have V2 := HV.out.but hb2 (fun _ => IF_CF)
    have c1 := V2.at 1 (by omega)
    rw [HM.out] at c1
    obtain ⟨k1, k2⟩ := S2.row.2 m hm40
    dsimp only at k1
    have S3 := S2.count m (t.many m - 1)
    have HS3 : Hid (CX w p b g wide (t.end' (m : Int)) (N + 1) (w2.setCell ⟨g, m, none⟩ (.int .i64 ((t.many m - 1 : Nat) : Int)))) := ⟨by rw [HB.out]; exact S3, HCov.out.end' _, HBw.out⟩
    clear C hI2 hb2 S2 S3 V2 HC HCov HW HV HB HBw c0
    generalize t.many m = mm at *
    have hsub : (mm : Int) - 1 = ((mm - 1 : Nat) : Int) := by omega
    have hz0 : ((mm : Int) == 0) = false := by rw [beq_eq_false_iff_ne]; exact hposz
    generalize mm - 1 = m1 at *
    have hm1 : (mm : Int) ≤ 900 := hlez
    have hm0 : (0 : Int) < (mm : Int) := by omega
    go_wp2
    exact HQ.out _ _ _ _ _ _ _ _ _ _ _ _ _ _ _ _ _ _ _ _ _ _ _ _ _ _ _ _ _ _ _ _ _ _ _ _ _ _ _ _ _ _ _ _ _ _ _ _ _ _ _ _ _ _ _ _ _ _ _ _ _ _ _ _ _ _ _ _ _ _ _ _ _ _ _ _ _ _ _ _ _ _ _ _ _ _ _ _ _ _ _ _ _ _ _ HS3.out (Nat.le_refl _)
  · have e4 : t.end' (v 1) = t := by unfold Itn.end'; rw [if_neg he]
    rw [e4, errV, if_neg he] at C
    clear e4
    generalize t.endE (v 1) = ke at *
    generalize v 1 = z at *
    go_wp2_with fail
    refine C.mono ?_
    rintro e w2 ⟨rfl, hI2, hb2⟩
    have HS2 : Hid (CX w p b g wide t (N + 1) w2) := ⟨HC.out.on hI2 hb2, HCov.out, HW.out⟩
    clear C hI2 hb2 HC HV
    go_wp2
    exact HQ.out _ _ _ _ _ _ _ _ _ _ _ _ _ _ _ _ _ _ _ _ _ _ _ _ _ _ _ _ _ _ _ _ _ _ _ _ _ _ _ _ _ _ _ _ _ _ _ _ _ _ _ _ _ _ _ _ _ _ _ _ _ _ _ _ _ _ _ _ _ _ _ _ _ _ _ _ _ _ _ _ _ _ _ _ _ _ _ _ _ _ _ _ _ _ _ HS2.out (Nat.le_refl _)
end Go.Proofs.Ytilfjahbdlepjaa
