/- DiskPlays, a piece: walks over the program. -/
import Derived.Test.YtmeihdjcifhcpaaDoorDPa
import Derived.Deep.Cut
import Derived.Deep.CutRange
namespace Go.Proofs.YtmeihdjcifhcpaaDoor
open Go.RowKit El Pol
set_option linter.unusedVariables false in
set_option maxRecDepth 1000000 in
set_option maxHeartbeats 1000000 in
theorem te (rows size n2 c2 p g cap q : Nat) (a2 : Option Addr) (d : Dsk) (f : Nat → List El) (v : Nat → Int) (w : World) (u3 u4 u5 u6 u9 u10 u12 u14 u15 u17 u18 u19 u20 u21 u22 u23 u24 u25 u26 u27 u28 u29 u30 u31 u32 u33 u34 u35 u36 u37 u38 u39 u40 u41 u42 u43 u44 u45 u46 u47 u48 u49 u50 u51 u52 u53 u54 u55 u56 u57 u58 u59 u60 u61 u62 u63 u64 u65 u66 u67 u68 u69 u70 u71 u72 u73 u74 u75 u76 u77 u78 u79 u80 u81 u82 u83 u84 u85 u86 u87 u88 u89 u90 u91 u92 u93 u94 u95 u96 u97 u98 u99 u100 u101 u102 u103 u104 u105 u106 u107 u108 u109 u110 u111 u112 u113 u114 u115 u116 u117 u118 u119 u120 u121 u122 u123 u124 u125 u126 u127 u128 u129 u130 u131 u132 u133 u134 u135 u136 u137 u138 u139 u140 u141 u142 u143 u144 u145 u146 u147 u148 u149 u150 u151 u152 u153 u154 u155 u156 u157 u158 u159 u160 u161 u162 u163 u164 u165 u166 u167 u168 u169 u170 u171 u172 u173 u174 u175 u176 u177 u178 u179 u180 u181 u182 u183 u184 u185 u186 u187 u188 u189 u190 u191 u192 u193 u194 u195 u196 u197 u198 u199 u200 u201 u202 u203 u204 u205 u206 u207 u208 u209 u210 u211 u212 u213 u214 u215 u216 u217 u218 u219 u220 u221 u222 u223 u224 u225 u226 u227 u228 u229 u230 u231 u232 u233 u234 : Value) (wc : World) (Q : Exit → Act → World → Prop)
    (hS : St w p g rows wc d f) (hV : Vv w p g q wc v) (hR : d.rows = rows)
    (hQ : ∀ (x97 x98 x99 x100 x101 x102 x103 x104 x105 x106 : Value)  (w1 : World), w1 = wc → Q .normal ⟨#[.int .i64 rows, .int .i64 size, .slice a2 n2 c2, u3, u4, u5, u6, .int .i64 ((d.readE (v 1) : Nat) : Int), .pointer (some ⟨p, 0, none⟩), u9, u10, .slice (some ⟨g, 0, none⟩) rows cap, u12, .bool d.failed, u14, u15, .pointer (some ⟨q, 0, none⟩), u17, u18, u19, u20, u21, u22, u23, u24, u25, u26, u27, u28, u29, u30, u31, u32, u33, u34, u35, u36, u37, u38, u39, u40, u41, u42, u43, u44, u45, u46, u47, u48, u49, u50, u51, u52, u53, u54, u55, u56, u57, u58, u59, u60, u61, u62, u63, u64, u65, u66, u67, u68, u69, u70, u71, u72, u73, u74, u75, u76, u77, u78, u79, u80, u81, u82, u83, u84, u85, u86, u87, u88, u89, u90, u91, u92, u93, u94, u95, u96, x97, x98, x99, x100, x101, x102, x103, x104, x105, x106, u107, u108, u109, u110, u111, u112, u113, u114, u115, u116, u117, u118, u119, u120, u121, u122, u123, u124, u125, u126, u127, u128, u129, u130, u131, u132, u133, u134, u135, u136, u137, u138, u139, u140, u141, u142, u143, u144, u145, u146, u147, u148, u149, u150, u151, u152, u153, u154, u155, u156, u157, u158, u159, u160, u161, u162, u163, u164, u165, u166, u167, u168, u169, u170, u171, u172, u173, u174, u175, u176, u177, u178, u179, u180, u181, u182, u183, u184, u185, u186, u187, u188, u189, u190, u191, u192, u193, u194, u195, u196, u197, u198, u199, u200, u201, u202, u203, u204, u205, u206, u207, u208, u209, u210, u211, u212, u213, u214, u215, u216, u217, u218, u219, u220, u221, u222, u223, u224, u225, u226, u227, u228, u229, u230, u231, u232, u233, u234], []⟩ w1) :
    Code.wp Tryd.prog (cut [1, 1, 1, 1, 1, 1, 1, 1, 1, 1, 0, 1, 2, 5, 1, 0, 2, 1, 1, 1, 0] (Tryd.f5.body.getD .skip)) Q ⟨#[.int .i64 rows, .int .i64 size, .slice a2 n2 c2, u3, u4, u5, u6, .int .i64 0, .pointer (some ⟨p, 0, none⟩), u9, u10, .slice (some ⟨g, 0, none⟩) rows cap, u12, .bool d.failed, u14, u15, .pointer (some ⟨q, 0, none⟩), u17, u18, u19, u20, u21, u22, u23, u24, u25, u26, u27, u28, u29, u30, u31, u32, u33, u34, u35, u36, u37, u38, u39, u40, u41, u42, u43, u44, u45, u46, u47, u48, u49, u50, u51, u52, u53, u54, u55, u56, u57, u58, u59, u60, u61, u62, u63, u64, u65, u66, u67, u68, u69, u70, u71, u72, u73, u74, u75, u76, u77, u78, u79, u80, u81, u82, u83, u84, u85, u86, u87, u88, u89, u90, u91, u92, u93, u94, u95, u96, u97, u98, u99, u100, u101, u102, u103, u104, u105, u106, u107, u108, u109, u110, u111, u112, u113, u114, u115, u116, u117, u118, u119, u120, u121, u122, u123, u124, u125, u126, u127, u128, u129, u130, u131, u132, u133, u134, u135, u136, u137, u138, u139, u140, u141, u142, u143, u144, u145, u146, u147, u148, u149, u150, u151, u152, u153, u154, u155, u156, u157, u158, u159, u160, u161, u162, u163, u164, u165, u166, u167, u168, u169, u170, u171, u172, u173, u174, u175, u176, u177, u178, u179, u180, u181, u182, u183, u184, u185, u186, u187, u188, u189, u190, u191, u192, u193, u194, u195, u196, u197, u198, u199, u200, u201, u202, u203, u204, u205, u206, u207, u208, u209, u210, u211, u212, u213, u214, u215, u216, u217, u218, u219, u220, u221, u222, u223, u224, u225, u226, u227, u228, u229, u230, u231, u232, u233, u234], []⟩ wc := by
  conv => arg 2; whnf
  have k1 := hV.at 1 (by omega)
  clear hV hS
  unfold Dsk.readE at hQ
  rw [hR] at hQ
  generalize v 1 = z at *
  cases hf : d.failed with
  | true =>
    rw [if_pos hf, hf] at hQ
    clear hf hR
    have HQ : Hid _ := hQ
    clear hQ
    go_wp2
    exact HQ.out _ _ _ _ _ _ _ _ _ _ _ rfl
  | false =>
    rw [if_neg (by rw [hf]; exact Bool.false_ne_true), hf] at hQ
    clear hf hR
    by_cases h1 : z < 0
    · rw [if_pos (.inl h1)] at hQ
      have HQ : Hid _ := hQ
      clear hQ
      go_wp2
      exact HQ.out _ _ _ _ _ _ _ _ _ _ _ rfl
    · by_cases h2 : (rows : Int) ≤ z
      · rw [if_pos (.inr h2)] at hQ
        have HQ : Hid _ := hQ
        clear hQ
        go_wp2
        exact HQ.out _ _ _ _ _ _ _ _ _ _ _ rfl
      · rw [if_neg (by omega)] at hQ
        have HQ : Hid _ := hQ
        clear hQ
        go_wp2
        exact HQ.out _ _ _ _ _ _ _ _ _ _ _ rfl

set_option linter.unusedVariables false in
set_option maxRecDepth 1000000 in
set_option maxHeartbeats 1000000 in
theorem twant (rows size n2 c2 p g cap q : Nat) (a2 : Option Addr) (d : Dsk) (f : Nat → List El) (v : Nat → Int) (w : World) (u3 u4 u5 u6 u9 u10 u12 u14 u15 u17 u18 u19 u21 u22 u23 u24 u25 u26 u27 u28 u29 u30 u31 u32 u33 u34 u35 u36 u37 u38 u39 u40 u41 u42 u43 u44 u45 u46 u47 u48 u49 u50 u51 u52 u53 u54 u55 u56 u57 u58 u59 u60 u61 u62 u63 u64 u65 u66 u67 u68 u69 u70 u71 u72 u73 u74 u75 u76 u77 u78 u79 u80 u81 u82 u83 u84 u85 u86 u87 u88 u89 u90 u91 u92 u93 u94 u95 u96 u97 u98 u99 u100 u101 u102 u103 u104 u105 u106 u107 u108 u109 u110 u111 u112 u113 u114 u115 u116 u117 u118 u119 u120 u121 u122 u123 u124 u125 u126 u127 u128 u129 u130 u131 u132 u133 u134 u135 u136 u137 u138 u139 u140 u141 u142 u143 u144 u145 u146 u147 u148 u149 u150 u151 u152 u153 u154 u155 u156 u157 u158 u159 u160 u161 u162 u163 u164 u165 u166 u167 u168 u169 u170 u171 u172 u173 u174 u175 u176 u177 u178 u179 u180 u181 u182 u183 u184 u185 u186 u187 u188 u189 u190 u191 u192 u193 u194 u195 u196 u197 u198 u199 u200 u201 u202 u203 u204 u205 u206 u207 u208 u209 u210 u211 u212 u213 u214 u215 u216 u217 u218 u219 u220 u221 u222 u223 u224 u225 u226 u227 u228 u229 u230 u231 u232 u233 u234 : Value) (wc : World) (Q : Exit → Act → World → Prop)
    (hS : St w p g rows wc d f) (hV : Vv w p g q wc v) (hR : d.rows = rows) (hfr : ∀ r, r < rows → f r = d.row r)
    (hQ : ∀ (x186 x187 x188 x189 x190 x191 x192 x193 x194 x195 x196 x197 x198 x199 x200 : Value)  (w1 : World), w1 = wc → Q .normal ⟨#[.int .i64 rows, .int .i64 size, .slice a2 n2 c2, u3, u4, u5, u6, .int .i64 ((d.readE (v 1) : Nat) : Int), .pointer (some ⟨p, 0, none⟩), u9, u10, .slice (some ⟨g, 0, none⟩) rows cap, u12, .bool d.failed, u14, u15, .pointer (some ⟨q, 0, none⟩), u17, u18, u19, st (d.readT (v 1)), u21, u22, u23, u24, u25, u26, u27, u28, u29, u30, u31, u32, u33, u34, u35, u36, u37, u38, u39, u40, u41, u42, u43, u44, u45, u46, u47, u48, u49, u50, u51, u52, u53, u54, u55, u56, u57, u58, u59, u60, u61, u62, u63, u64, u65, u66, u67, u68, u69, u70, u71, u72, u73, u74, u75, u76, u77, u78, u79, u80, u81, u82, u83, u84, u85, u86, u87, u88, u89, u90, u91, u92, u93, u94, u95, u96, u97, u98, u99, u100, u101, u102, u103, u104, u105, u106, u107, u108, u109, u110, u111, u112, u113, u114, u115, u116, u117, u118, u119, u120, u121, u122, u123, u124, u125, u126, u127, u128, u129, u130, u131, u132, u133, u134, u135, u136, u137, u138, u139, u140, u141, u142, u143, u144, u145, u146, u147, u148, u149, u150, u151, u152, u153, u154, u155, u156, u157, u158, u159, u160, u161, u162, u163, u164, u165, u166, u167, u168, u169, u170, u171, u172, u173, u174, u175, u176, u177, u178, u179, u180, u181, u182, u183, u184, u185, x186, x187, x188, x189, x190, x191, x192, x193, x194, x195, x196, x197, x198, x199, x200, u201, u202, u203, u204, u205, u206, u207, u208, u209, u210, u211, u212, u213, u214, u215, u216, u217, u218, u219, u220, u221, u222, u223, u224, u225, u226, u227, u228, u229, u230, u231, u232, u233, u234], []⟩ w1) :
    Code.wp Tryd.prog (cut [1, 1, 1, 1, 1, 1, 1, 1, 1, 1, 0, 1, 2, 5, 1, 0, 2, 1, 1, 1, 1, 1, 1, 1, 0] (Tryd.f5.body.getD .skip)) Q ⟨#[.int .i64 rows, .int .i64 size, .slice a2 n2 c2, u3, u4, u5, u6, .int .i64 0, .pointer (some ⟨p, 0, none⟩), u9, u10, .slice (some ⟨g, 0, none⟩) rows cap, u12, .bool d.failed, u14, u15, .pointer (some ⟨q, 0, none⟩), u17, u18, u19, .string ⟨#[]⟩, u21, u22, u23, u24, u25, u26, u27, u28, u29, u30, u31, u32, u33, u34, u35, u36, u37, u38, u39, u40, u41, u42, u43, u44, u45, u46, u47, u48, u49, u50, u51, u52, u53, u54, u55, u56, u57, u58, u59, u60, u61, u62, u63, u64, u65, u66, u67, u68, u69, u70, u71, u72, u73, u74, u75, u76, u77, u78, u79, u80, u81, u82, u83, u84, u85, u86, u87, u88, u89, u90, u91, u92, u93, u94, u95, u96, u97, u98, u99, u100, u101, u102, u103, u104, u105, u106, u107, u108, u109, u110, u111, u112, u113, u114, u115, u116, u117, u118, u119, u120, u121, u122, u123, u124, u125, u126, u127, u128, u129, u130, u131, u132, u133, u134, u135, u136, u137, u138, u139, u140, u141, u142, u143, u144, u145, u146, u147, u148, u149, u150, u151, u152, u153, u154, u155, u156, u157, u158, u159, u160, u161, u162, u163, u164, u165, u166, u167, u168, u169, u170, u171, u172, u173, u174, u175, u176, u177, u178, u179, u180, u181, u182, u183, u184, u185, u186, u187, u188, u189, u190, u191, u192, u193, u194, u195, u196, u197, u198, u199, u200, u201, u202, u203, u204, u205, u206, u207, u208, u209, u210, u211, u212, u213, u214, u215, u216, u217, u218, u219, u220, u221, u222, u223, u224, u225, u226, u227, u228, u229, u230, u231, u232, u233, u234], []⟩ wc := by
  conv => arg 2; whnf
  have k1 := hV.at 1 (by omega)
  have HRow : Hid (RowAt wc g rows (fun r => st (f r))) := hS.row
  clear hV hS
  unfold Dsk.readT at hQ
  by_cases he : d.readE (v 1) = 0
  · rw [if_pos he, he] at hQ
    obtain ⟨h1, h2⟩ := readE_row he
    have hf : d.failed = false := by
      cases h : d.failed with
      | false => rfl
      | true => unfold Dsk.readE at he; rw [if_pos h] at he; omega
    rw [hf] at hQ ⊢
    rw [hR] at h2
    obtain ⟨r, hr⟩ : ∃ r : Nat, v 1 = r := ⟨(v 1).toNat, by omega⟩
    rw [hr] at k1 h1 h2 hQ
    have k2 := (HRow.out.2 r (by omega)).1
    dsimp only at k2
    rw [hfr r (by omega)] at k2
    rw [Int.toNat_natCast] at hQ
    clear hf he hr hR
    generalize d.row r = t at *
    have HQ : Hid _ := hQ
    clear hQ
    go_wp2
    exact HQ.out _ _ _ _ _ _ _ _ _ _ _ _ _ _ _ _ rfl
  · rw [if_neg he] at hQ
    unfold Dsk.readE at hQ he
    rw [hR] at hQ he
    generalize v 1 = z at *
    cases hf : d.failed with
    | true =>
      rw [if_pos hf, hf] at hQ
      clear hf hR he
      have HQ : Hid _ := hQ
      clear hQ
      go_wp2
      exact HQ.out _ _ _ _ _ _ _ _ _ _ _ _ _ _ _ _ rfl
    | false =>
      rw [if_neg (by rw [hf]; exact Bool.false_ne_true)] at hQ he
      rw [hf] at hQ
      clear hf hR
      by_cases h1 : z < 0
      · rw [if_pos (.inl h1)] at hQ
        clear he
        have HQ : Hid _ := hQ
        clear hQ
        go_wp2
        exact HQ.out _ _ _ _ _ _ _ _ _ _ _ _ _ _ _ _ rfl
      · by_cases h2 : (rows : Int) ≤ z
        · rw [if_pos (.inr h2)] at hQ
          clear he
          have HQ : Hid _ := hQ
          clear hQ
          go_wp2
          exact HQ.out _ _ _ _ _ _ _ _ _ _ _ _ _ _ _ _ rfl
        · exact absurd (if_neg (by omega)) he

set_option linter.unusedVariables false in
set_option maxRecDepth 1000000 in
set_option maxHeartbeats 1000000 in
theorem tfail (rows size n2 c2 p g cap q : Nat) (a2 : Option Addr) (d : Dsk) (f : Nat → List El) (v : Nat → Int) (w : World) (u3 u4 u5 u6 u7 u9 u10 u12 u14 u15 u17 u18 u19 u20 u21 u22 u23 u24 u25 u26 u27 u28 u29 u30 u31 u32 u33 u34 u35 u36 u37 u38 u39 u40 u41 u42 u43 u44 u45 u46 u47 u48 u49 u50 u51 u52 u53 u54 u55 u56 u57 u58 u59 u60 u61 u62 u63 u64 u65 u66 u67 u68 u69 u70 u71 u72 u73 u74 u75 u76 u77 u78 u79 u80 u81 u82 u83 u84 u85 u86 u87 u88 u89 u90 u91 u92 u93 u94 u95 u96 u97 u98 u99 u100 u101 u102 u103 u104 u105 u106 u107 u108 u109 u110 u111 u112 u113 u114 u115 u116 u117 u118 u119 u120 u121 u122 u123 u124 u125 u126 u127 u128 u129 u130 u131 u132 u133 u134 u135 u136 u137 u138 u139 u140 u141 u142 u143 u144 u145 u146 u147 u148 u149 u150 u151 u152 u153 u154 u155 u156 u157 u158 u159 u160 u161 u162 u163 u164 u165 u166 u167 u168 u169 u170 u171 u172 u173 u174 u175 u176 u177 u178 u179 u180 u181 u182 u183 u184 u185 u186 u187 u188 u189 u190 u191 u192 u193 u194 u195 u196 u197 u198 u199 u200 u201 u202 u203 u204 u205 u206 u207 u208 u209 u210 u211 u212 u213 u214 u215 u216 u217 u218 u219 u220 u221 u222 u223 u224 u225 u226 u227 u228 u229 u230 u231 u232 u233 u234 : Value) (wc : World) (Q : Exit → Act → World → Prop)
    (hS : St w p g rows wc d f) (hV : Vv w p g q wc v) (hR : d.rows = rows) (HG : Hid (Handle w))
    (hQ : ∀ (x7 x162 x163 x164 x165 x166 : Value)  (w1 : World), St w p g rows w1 d.fail f → Vv w p g q w1 v → Q .normal ⟨#[.int .i64 rows, .int .i64 size, .slice a2 n2 c2, u3, u4, u5, u6, x7, .pointer (some ⟨p, 0, none⟩), u9, .bool true, .slice (some ⟨g, 0, none⟩) rows cap, u12, .bool d.fail.failed, u14, u15, .pointer (some ⟨q, 0, none⟩), u17, u18, u19, u20, u21, u22, u23, u24, u25, u26, u27, u28, u29, u30, u31, u32, u33, u34, u35, u36, u37, u38, u39, u40, u41, u42, u43, u44, u45, u46, u47, u48, u49, u50, u51, u52, u53, u54, u55, u56, u57, u58, u59, u60, u61, u62, u63, u64, u65, u66, u67, u68, u69, u70, u71, u72, u73, u74, u75, u76, u77, u78, u79, u80, u81, u82, u83, u84, u85, u86, u87, u88, u89, u90, u91, u92, u93, u94, u95, u96, u97, u98, u99, u100, u101, u102, u103, u104, u105, u106, u107, u108, u109, u110, u111, u112, u113, u114, u115, u116, u117, u118, u119, u120, u121, u122, u123, u124, u125, u126, u127, u128, u129, u130, u131, u132, u133, u134, u135, u136, u137, u138, u139, u140, u141, u142, u143, u144, u145, u146, u147, u148, u149, u150, u151, u152, u153, u154, u155, u156, u157, u158, u159, u160, u161, x162, x163, x164, x165, x166, u167, u168, u169, u170, u171, u172, u173, u174, u175, u176, u177, u178, u179, u180, u181, u182, u183, u184, u185, u186, u187, u188, u189, u190, u191, u192, u193, u194, u195, u196, u197, u198, u199, u200, u201, u202, u203, u204, u205, u206, u207, u208, u209, u210, u211, u212, u213, u214, u215, u216, u217, u218, u219, u220, u221, u222, u223, u224, u225, u226, u227, u228, u229, u230, u231, u232, u233, u234], []⟩ w1) :
    Code.wp Tryd.prog (cut [1, 1, 1, 1, 1, 1, 1, 1, 1, 1, 0, 1, 2, 5, 1, 0, 2, 1, 1, 1, 1, 0, 1, 2, 1, 4, 1, 3] (Tryd.f5.body.getD .skip)) Q ⟨#[.int .i64 rows, .int .i64 size, .slice a2 n2 c2, u3, u4, u5, u6, u7, .pointer (some ⟨p, 0, none⟩), u9, u10, .slice (some ⟨g, 0, none⟩) rows cap, u12, .bool d.failed, u14, u15, .pointer (some ⟨q, 0, none⟩), u17, u18, u19, u20, u21, u22, u23, u24, u25, u26, u27, u28, u29, u30, u31, u32, u33, u34, u35, u36, u37, u38, u39, u40, u41, u42, u43, u44, u45, u46, u47, u48, u49, u50, u51, u52, u53, u54, u55, u56, u57, u58, u59, u60, u61, u62, u63, u64, u65, u66, u67, u68, u69, u70, u71, u72, u73, u74, u75, u76, u77, u78, u79, u80, u81, u82, u83, u84, u85, u86, u87, u88, u89, u90, u91, u92, u93, u94, u95, u96, u97, u98, u99, u100, u101, u102, u103, u104, u105, u106, u107, u108, u109, u110, u111, u112, u113, u114, u115, u116, u117, u118, u119, u120, u121, u122, u123, u124, u125, u126, u127, u128, u129, u130, u131, u132, u133, u134, u135, u136, u137, u138, u139, u140, u141, u142, u143, u144, u145, u146, u147, u148, u149, u150, u151, u152, u153, u154, u155, u156, u157, u158, u159, u160, u161, u162, u163, u164, u165, u166, u167, u168, u169, u170, u171, u172, u173, u174, u175, u176, u177, u178, u179, u180, u181, u182, u183, u184, u185, u186, u187, u188, u189, u190, u191, u192, u193, u194, u195, u196, u197, u198, u199, u200, u201, u202, u203, u204, u205, u206, u207, u208, u209, u210, u211, u212, u213, u214, u215, u216, u217, u218, u219, u220, u221, u222, u223, u224, u225, u226, u227, u228, u229, u230, u231, u232, u233, u234], []⟩ wc := by
  conv => arg 2; whnf
  have F := dfail hS.dsk
  have HV : Hid (Vv w p g q wc v) := hV
  have HS : Hid (St w p g rows wc d f) := hS
  clear hV hS
  unfold Dsk.failE at F
  cases hf : d.failed with
  | true =>
    rw [hf] at F
    rw [if_pos rfl] at F
    have E := fun w1 (h : St w p g rows w1 d.fail f) => err_v 6 w1 (HG.out.old h.low)
    clear hf
    go_wp2_with fail
    refine F.mono ?_
    rintro e1 wa ⟨rfl, D1, b1⟩
    have S1 := HS.out.onDsk b1 D1
    have V1 := HV.out.onDsk b1
    clear F D1 b1
    have HS1 : Hid (St w p g rows wa d.fail f) := S1
    have HV1 : Hid (Vv w p g q wa v) := V1
    have E1 := E wa S1
    clear S1 V1 E
    go_wp2_with fail
    refine E1.mono ?_
    rintro e2 wb ⟨rfl, b2⟩
    have S2 := HS1.out.old b2
    have V2 := HV1.out.old b2
    have HS2 : Hid (St w p g rows wb d.fail f) := S2
    have HV2 : Hid (Vv w p g q wb v) := V2
    clear E1 b2 S2 V2
    go_wp2
    exact hQ _ _ _ _ _ _ _ HS2.out HV2.out
  | false =>
    rw [hf] at F
    rw [if_neg Bool.false_ne_true] at F
    have E := fun w1 (h : St w p g rows w1 d.fail f) => err_v 0 w1 (HG.out.old h.low)
    clear hf
    go_wp2_with fail
    refine F.mono ?_
    rintro e1 wa ⟨rfl, D1, b1⟩
    have S1 := HS.out.onDsk b1 D1
    have V1 := HV.out.onDsk b1
    clear F D1 b1
    have HS1 : Hid (St w p g rows wa d.fail f) := S1
    have HV1 : Hid (Vv w p g q wa v) := V1
    have E1 := E wa S1
    clear S1 V1 E
    go_wp2_with fail
    refine E1.mono ?_
    rintro e2 wb ⟨rfl, b2⟩
    have S2 := HS1.out.old b2
    have V2 := HV1.out.old b2
    have HS2 : Hid (St w p g rows wb d.fail f) := S2
    have HV2 : Hid (Vv w p g q wb v) := V2
    clear E1 b2 S2 V2
    go_wp2
    exact hQ _ _ _ _ _ _ _ HS2.out HV2.out
end Go.Proofs.YtmeihdjcifhcpaaDoor
