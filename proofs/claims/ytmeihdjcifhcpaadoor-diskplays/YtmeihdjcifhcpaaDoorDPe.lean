/- DiskPlays, a piece: walks over the program. -/
import Derived.Test.YtmeihdjcifhcpaaDoorDPa
import Derived.Deep.Cut
import Derived.Deep.CutRange
import Derived.Test.YtmeihdjcifhcpaaDoorDskR
namespace Go.Proofs.YtmeihdjcifhcpaaDoor
open Go.RowKit El Pol
set_option linter.unusedVariables false in
set_option maxRecDepth 1000000 in
set_option maxHeartbeats 1000000 in
theorem trep (rows size n2 c2 p g cap q : Nat) (a2 : Option Addr) (d : Dsk) (f : Nat → List El) (v : Nat → Int) (w : World) (u3 u4 u5 u6 u9 u10 u12 u14 u15 u17 u18 u19 u20 u21 u22 u23 u24 u25 u26 u27 u28 u29 u30 u31 u32 u33 u34 u35 u36 u37 u38 u39 u40 u41 u42 u43 u44 u45 u46 u47 u48 u49 u50 u51 u52 u53 u54 u55 u56 u57 u58 u59 u60 u61 u62 u63 u64 u65 u66 u67 u68 u69 u70 u71 u72 u73 u74 u75 u76 u77 u78 u79 u80 u81 u82 u83 u84 u85 u86 u87 u88 u89 u90 u91 u92 u93 u94 u95 u96 u97 u98 u99 u100 u101 u102 u103 u104 u105 u106 u107 u108 u109 u110 u111 u112 u113 u114 u115 u116 u117 u118 u119 u120 u121 u122 u123 u124 u125 u126 u127 u128 u129 u130 u131 u132 u133 u134 u135 u136 u137 u138 u139 u140 u141 u142 u143 u144 u145 u146 u147 u148 u149 u150 u151 u152 u153 u154 u155 u156 u157 u158 u159 u160 u161 u162 u163 u164 u165 u166 u167 u168 u169 u170 u171 u172 u173 u174 u175 u176 u177 u178 u179 u180 u181 u182 u183 u184 u185 u186 u187 u188 u189 u190 u191 u192 u193 u194 u195 u196 u197 u198 u199 u200 u201 u202 u203 u204 u205 u206 u207 u208 u209 u210 u211 u212 u213 u214 u215 u216 u217 u218 u219 u220 u221 u222 u223 u224 u225 u226 u227 u228 u229 u230 u231 u232 u233 u234 : Value) (wc : World) (Q : Exit → Act → World → Prop)
    (hS : St w p g rows wc d f) (hV : Vv w p g q wc v) (hR : d.rows = rows) (hZ : d.size = size) (h16 : size ≤ 16) (h20 : rows ≤ 20) (hfr : ∀ r, r < rows → f r = d.row r)
    (hQ : ∀ (x19 x169 x170 x171 x172 x173 x174 x175 x176 x177 x178 x179 x180 x181 : Value) (f' : Nat → List El) (w1 : World), St w p g rows w1 d f' → Vv w p g q w1 v → (∀ r, r < rows → f' r = d.replace.row r) → Q .normal ⟨#[.int .i64 rows, .int .i64 size, .slice a2 n2 c2, u3, u4, u5, u6, .int .i64 ((d.replaceE : Nat) : Int), .pointer (some ⟨p, 0, none⟩), u9, u10, .slice (some ⟨g, 0, none⟩) rows cap, u12, .bool d.failed, u14, u15, .pointer (some ⟨q, 0, none⟩), u17, u18, x19, u20, u21, u22, u23, u24, u25, u26, u27, u28, u29, u30, u31, u32, u33, u34, u35, u36, u37, u38, u39, u40, u41, u42, u43, u44, u45, u46, u47, u48, u49, u50, u51, u52, u53, u54, u55, u56, u57, u58, u59, u60, u61, u62, u63, u64, u65, u66, u67, u68, u69, u70, u71, u72, u73, u74, u75, u76, u77, u78, u79, u80, u81, u82, u83, u84, u85, u86, u87, u88, u89, u90, u91, u92, u93, u94, u95, u96, u97, u98, u99, u100, u101, u102, u103, u104, u105, u106, u107, u108, u109, u110, u111, u112, u113, u114, u115, u116, u117, u118, u119, u120, u121, u122, u123, u124, u125, u126, u127, u128, u129, u130, u131, u132, u133, u134, u135, u136, u137, u138, u139, u140, u141, u142, u143, u144, u145, u146, u147, u148, u149, u150, u151, u152, u153, u154, u155, u156, u157, u158, u159, u160, u161, u162, u163, u164, u165, u166, u167, u168, x169, x170, x171, x172, x173, x174, x175, x176, x177, x178, x179, x180, x181, u182, u183, u184, u185, u186, u187, u188, u189, u190, u191, u192, u193, u194, u195, u196, u197, u198, u199, u200, u201, u202, u203, u204, u205, u206, u207, u208, u209, u210, u211, u212, u213, u214, u215, u216, u217, u218, u219, u220, u221, u222, u223, u224, u225, u226, u227, u228, u229, u230, u231, u232, u233, u234], []⟩ w1) :
    Code.wp Tryd.prog (cut [1, 1, 1, 1, 1, 1, 1, 1, 1, 1, 0, 1, 2, 5, 1, 0, 2, 1, 1, 1, 1, 0, 1, 2, 1, 4, 1, 4, 1, 3, 1, 0] (Tryd.f5.body.getD .skip)) Q ⟨#[.int .i64 rows, .int .i64 size, .slice a2 n2 c2, u3, u4, u5, u6, .int .i64 0, .pointer (some ⟨p, 0, none⟩), u9, u10, .slice (some ⟨g, 0, none⟩) rows cap, u12, .bool d.failed, u14, u15, .pointer (some ⟨q, 0, none⟩), u17, u18, u19, u20, u21, u22, u23, u24, u25, u26, u27, u28, u29, u30, u31, u32, u33, u34, u35, u36, u37, u38, u39, u40, u41, u42, u43, u44, u45, u46, u47, u48, u49, u50, u51, u52, u53, u54, u55, u56, u57, u58, u59, u60, u61, u62, u63, u64, u65, u66, u67, u68, u69, u70, u71, u72, u73, u74, u75, u76, u77, u78, u79, u80, u81, u82, u83, u84, u85, u86, u87, u88, u89, u90, u91, u92, u93, u94, u95, u96, u97, u98, u99, u100, u101, u102, u103, u104, u105, u106, u107, u108, u109, u110, u111, u112, u113, u114, u115, u116, u117, u118, u119, u120, u121, u122, u123, u124, u125, u126, u127, u128, u129, u130, u131, u132, u133, u134, u135, u136, u137, u138, u139, u140, u141, u142, u143, u144, u145, u146, u147, u148, u149, u150, u151, u152, u153, u154, u155, u156, u157, u158, u159, u160, u161, u162, u163, u164, u165, u166, u167, u168, u169, u170, u171, u172, u173, u174, u175, u176, u177, u178, u179, u180, u181, u182, u183, u184, u185, u186, u187, u188, u189, u190, u191, u192, u193, u194, u195, u196, u197, u198, u199, u200, u201, u202, u203, u204, u205, u206, u207, u208, u209, u210, u211, u212, u213, u214, u215, u216, u217, u218, u219, u220, u221, u222, u223, u224, u225, u226, u227, u228, u229, u230, u231, u232, u233, u234], []⟩ wc := by
  conv => arg 2; whnf
  have HV : Hid (Vv w p g q wc v) := hV
  have HS : Hid (St w p g rows wc d f) := hS
  clear hV hS
  unfold Dsk.replaceE Dsk.replace at hQ
  cases hf : d.failed with
  | false =>
    rw [if_neg (by rw [hf]; exact Bool.false_ne_true), if_neg (by rw [hf]; exact Bool.false_ne_true), hf] at hQ
    have HQ : Hid _ := hQ
    have HF : Hid (∀ r, r < rows → f r = d.row r) := hfr
    clear hQ hf hfr
    go_wp2
    exact HQ.out _ _ _ _ _ _ _ _ _ _ _ _ _ _ _ _ HS.out HV.out HF.out
  | true =>
    rw [if_pos hf, if_pos hf, hf] at hQ
    have HQ : Hid _ := hQ
    clear hQ hf hfr
    have h16' : (size : Int) ≤ 16 := by omega
    obtain ⟨i0, hi, hz0, hz1, hz2⟩ := info_parts info8
    go_wp2
    go_loopw [19] (fun t wr => ∃ (k : Nat) (f' : Nat → List El), k ≤ rows ∧ t = .int .i64 k ∧ St w p g rows wr d f' ∧ Vv w p g q wr v ∧ ∀ r, r < k → f' r = List.replicate size 0) (fun t _ => rows - (intOf t).toNat)
    case atStart => exact ⟨0, f, Nat.zero_le _, rfl, HS.out, HV.out, fun r hr => by omega⟩
    case round =>
      obtain ⟨k, f', hk, rfl, hS1, hV1, hf1⟩ := hrel
      have HS1 : Hid (St w p g rows wr d f') := hS1
      have HV1 : Hid (Vv w p g q wr v) := hV1
      have HF1 : Hid (∀ r, r < k → f' r = List.replicate size 0) := hf1
      clear hS1 hV1 hf1
      by_cases hlt : k < rows
      · go_wp2_with (first | (at_make; refine wpList_make_full _ rfl _ _ 44 rfl wr.heap.size 5 i0 (.int .u8 0) 1 Tryd.underlying44 hi hz0 hz1 _ _ _ _ size rfl rfl rfl rfl (by rw [hz2]; omega) (by unfold maxLen; omega) (Nat.le_refl _) ?_))
        intro w3 hown hgrow
        have hO := Ow.made hown
        have hB := below_of_grown hgrow
        have hcv := run_text hO.rd 44 9 Tryd.underlying44 Tryd.underlying9
        have S3 := HS1.out.old hB
        have V3 := HV1.out.old hB
        obtain ⟨c1, c2⟩ := S3.row.2 k hlt
        have S4 := S3.onCell k (List.replicate size 0)
        have V4 := V3.onCell k (st (List.replicate size 0))
        have HR : Hid (∀ r, r < k + 1 → up f' k (List.replicate size 0) r = List.replicate size 0) := fun r hr => by
          by_cases e : r = k
          · rw [e, up_at]
          · rw [up_ne _ _ e]; exact HF1.out r (by omega)
        have HS4 : Hid (St w p g rows (w3.setCell ⟨g, k, none⟩ (st (List.replicate size 0))) d (up f' k (List.replicate size 0))) := S4
        have HV4 : Hid (Vv w p g q (w3.setCell ⟨g, k, none⟩ (st (List.replicate size 0))) v) := V4
        have hkr : (k : Int) < (rows : Int) := by omega
        clear hown hgrow hO hB S3 V3 S4 V4
        go_wp2
        go_roundw
        case rel => exact ⟨k + 1, _, by omega, by go_num, HS4.out, HV4.out, HR.out⟩
        case measure => simp [intOf]; omega
      · have HR : Hid (∀ r, r < rows → f' r = d.blank.row r) := fun r hr => by rw [HF1.out r (by omega), blank_row', hZ]
        go_wp2
        exact HQ.out _ _ _ _ _ _ _ _ _ _ _ _ _ _ _ _ HS1.out HV1.out HR.out

set_option linter.unusedVariables false in
set_option maxRecDepth 1000000 in
set_option maxHeartbeats 1000000 in
theorem tre (rows size n2 c2 p g cap q : Nat) (a2 : Option Addr) (d : Dsk) (f : Nat → List El) (v : Nat → Int) (w : World) (u3 u4 u5 u6 u7 u9 u10 u12 u14 u15 u17 u18 u19 u20 u21 u22 u23 u24 u25 u26 u27 u28 u29 u30 u31 u32 u33 u34 u35 u36 u37 u38 u39 u40 u41 u42 u43 u44 u45 u46 u47 u48 u49 u50 u51 u52 u53 u54 u55 u56 u57 u58 u59 u60 u61 u62 u63 u64 u65 u66 u67 u68 u69 u70 u71 u72 u73 u74 u75 u76 u77 u78 u79 u80 u81 u82 u83 u84 u85 u86 u87 u88 u89 u90 u91 u92 u93 u94 u95 u96 u97 u98 u99 u100 u101 u102 u103 u104 u105 u106 u107 u108 u109 u110 u111 u112 u113 u114 u115 u116 u117 u118 u119 u120 u121 u122 u123 u124 u125 u126 u127 u128 u129 u130 u131 u132 u133 u134 u135 u136 u137 u138 u139 u140 u141 u142 u143 u144 u145 u146 u147 u148 u149 u150 u151 u152 u153 u154 u155 u156 u157 u158 u159 u160 u161 u162 u163 u164 u165 u166 u167 u168 u169 u170 u171 u172 u173 u174 u175 u176 u177 u178 u179 u180 u181 u182 u183 u184 u185 u186 u187 u188 u189 u190 u191 u192 u193 u194 u195 u196 u197 u198 u199 u200 u201 u202 u203 u204 u205 u206 u207 u208 u209 u210 u211 u212 u213 u214 u215 u216 u217 u218 u219 u220 u221 u222 u223 u224 u225 u226 u227 u228 u229 u230 u231 u232 u233 u234 : Value) (wc : World) (Q : Exit → Act → World → Prop)
    (hS : St w p g rows wc d f) (hV : Vv w p g q wc v) (hR : d.rows = rows) (hZ : d.size = size) (h16 : size ≤ 16) (h20 : rows ≤ 20) (hfr : ∀ r, r < rows → f r = d.row r) (HG : Hid (Handle w))
    (hQ : ∀ (x7 x19 x169 x170 x171 x172 x173 x174 x175 x176 x177 x178 x179 x180 x181 x182 x183 x184 x185 : Value) (f' : Nat → List El) (w1 : World), St w p g rows w1 d.replace f' → Vv w p g q w1 v → (∀ r, r < rows → f' r = d.replace.row r) → Q .normal ⟨#[.int .i64 rows, .int .i64 size, .slice a2 n2 c2, u3, u4, u5, u6, x7, .pointer (some ⟨p, 0, none⟩), u9, .bool true, .slice (some ⟨g, 0, none⟩) rows cap, u12, .bool d.replace.failed, u14, u15, .pointer (some ⟨q, 0, none⟩), u17, u18, x19, u20, u21, u22, u23, u24, u25, u26, u27, u28, u29, u30, u31, u32, u33, u34, u35, u36, u37, u38, u39, u40, u41, u42, u43, u44, u45, u46, u47, u48, u49, u50, u51, u52, u53, u54, u55, u56, u57, u58, u59, u60, u61, u62, u63, u64, u65, u66, u67, u68, u69, u70, u71, u72, u73, u74, u75, u76, u77, u78, u79, u80, u81, u82, u83, u84, u85, u86, u87, u88, u89, u90, u91, u92, u93, u94, u95, u96, u97, u98, u99, u100, u101, u102, u103, u104, u105, u106, u107, u108, u109, u110, u111, u112, u113, u114, u115, u116, u117, u118, u119, u120, u121, u122, u123, u124, u125, u126, u127, u128, u129, u130, u131, u132, u133, u134, u135, u136, u137, u138, u139, u140, u141, u142, u143, u144, u145, u146, u147, u148, u149, u150, u151, u152, u153, u154, u155, u156, u157, u158, u159, u160, u161, u162, u163, u164, u165, u166, u167, u168, x169, x170, x171, x172, x173, x174, x175, x176, x177, x178, x179, x180, x181, x182, x183, x184, x185, u186, u187, u188, u189, u190, u191, u192, u193, u194, u195, u196, u197, u198, u199, u200, u201, u202, u203, u204, u205, u206, u207, u208, u209, u210, u211, u212, u213, u214, u215, u216, u217, u218, u219, u220, u221, u222, u223, u224, u225, u226, u227, u228, u229, u230, u231, u232, u233, u234], []⟩ w1) :
    Code.wp Tryd.prog (cut [1, 1, 1, 1, 1, 1, 1, 1, 1, 1, 0, 1, 2, 5, 1, 0, 2, 1, 1, 1, 1, 0, 1, 2, 1, 4, 1, 4, 1, 3] (Tryd.f5.body.getD .skip)) Q ⟨#[.int .i64 rows, .int .i64 size, .slice a2 n2 c2, u3, u4, u5, u6, u7, .pointer (some ⟨p, 0, none⟩), u9, u10, .slice (some ⟨g, 0, none⟩) rows cap, u12, .bool d.failed, u14, u15, .pointer (some ⟨q, 0, none⟩), u17, u18, u19, u20, u21, u22, u23, u24, u25, u26, u27, u28, u29, u30, u31, u32, u33, u34, u35, u36, u37, u38, u39, u40, u41, u42, u43, u44, u45, u46, u47, u48, u49, u50, u51, u52, u53, u54, u55, u56, u57, u58, u59, u60, u61, u62, u63, u64, u65, u66, u67, u68, u69, u70, u71, u72, u73, u74, u75, u76, u77, u78, u79, u80, u81, u82, u83, u84, u85, u86, u87, u88, u89, u90, u91, u92, u93, u94, u95, u96, u97, u98, u99, u100, u101, u102, u103, u104, u105, u106, u107, u108, u109, u110, u111, u112, u113, u114, u115, u116, u117, u118, u119, u120, u121, u122, u123, u124, u125, u126, u127, u128, u129, u130, u131, u132, u133, u134, u135, u136, u137, u138, u139, u140, u141, u142, u143, u144, u145, u146, u147, u148, u149, u150, u151, u152, u153, u154, u155, u156, u157, u158, u159, u160, u161, u162, u163, u164, u165, u166, u167, u168, u169, u170, u171, u172, u173, u174, u175, u176, u177, u178, u179, u180, u181, u182, u183, u184, u185, u186, u187, u188, u189, u190, u191, u192, u193, u194, u195, u196, u197, u198, u199, u200, u201, u202, u203, u204, u205, u206, u207, u208, u209, u210, u211, u212, u213, u214, u215, u216, u217, u218, u219, u220, u221, u222, u223, u224, u225, u226, u227, u228, u229, u230, u231, u232, u233, u234], []⟩ wc := by
  conv => arg 2; whnf
  rw [replace_failed] at hQ
  have HQ : Hid _ := hQ
  clear hQ
  refine wp_seq_k fun K hK => ?_
  have HK : Hid _ := hK
  clear hK
  go_wp2
  refine HK.out _ _ ?_
  clear HK K
  refine wp_seq_k fun K hK => ?_
  refine trep rows size n2 c2 p g cap q a2 d f v w _ _ _ _ _ _ _ _ _ _ _ _ _ _ _ _ _ _ _ _ _ _ _ _ _ _ _ _ _ _ _ _ _ _ _ _ _ _ _ _ _ _ _ _ _ _ _ _ _ _ _ _ _ _ _ _ _ _ _ _ _ _ _ _ _ _ _ _ _ _ _ _ _ _ _ _ _ _ _ _ _ _ _ _ _ _ _ _ _ _ _ _ _ _ _ _ _ _ _ _ _ _ _ _ _ _ _ _ _ _ _ _ _ _ _ _ _ _ _ _ _ _ _ _ _ _ _ _ _ _ _ _ _ _ _ _ _ _ _ _ _ _ _ _ _ _ _ _ _ _ _ _ _ _ _ _ _ _ _ _ _ _ _ _ _ _ _ _ _ _ _ _ _ _ _ _ _ _ _ _ _ _ _ _ _ _ _ _ _ _ _ _ _ _ _ _ _ _ _ _ _ _ _ _ _ _ _ _ _ _ _ _ _ _ _ _ _ _ _ _ _ _ _ _ _ _ _ _ _ hS hV hR hZ h16 h20 hfr ?_
  intro y19 y169 y170 y171 y172 y173 y174 y175 y176 y177 y178 y179 y180 y181 f1 w1 hS1 hV1 hf1
  refine then_k (hK _ _ ?_)
  clear hK K
  have W := dreplace hS1.dsk
  have HS4 : Hid (St w p g rows w1 d f1) := hS1
  have HV4 : Hid (Vv w p g q w1 v) := hV1
  have HF4 : Hid (∀ r, r < rows → f1 r = d.replace.row r) := hf1
  have E := fun w1 (h : St w p g rows w1 d.replace f1) => err_v d.replaceE w1 (HG.out.old h.low)
  clear hS hV hS1 hV1 hf1 hfr hR hZ
  generalize d.replaceE = ke at *
  generalize d.replace = d5 at *
  go_wp2_with fail
  refine W.mono ?_
  rintro e1 wa ⟨rfl, D1, b1⟩
  have S1 := HS4.out.onDsk b1 D1
  have V1 := HV4.out.onDsk b1
  have E1 := E wa S1
  have HS5 : Hid (St w p g rows wa d5 f1) := S1
  have HV5 : Hid (Vv w p g q wa v) := V1
  clear W D1 b1 E S1 V1
  go_wp2_with fail
  refine E1.mono ?_
  rintro e2 wb ⟨rfl, b2⟩
  have HS6 : Hid (St w p g rows wb d5 f1) := HS5.out.old b2
  have HV6 : Hid (Vv w p g q wb v) := HV5.out.old b2
  clear E1 b2
  go_wp2
  exact HQ.out _ _ _ _ _ _ _ _ _ _ _ _ _ _ _ _ _ _ _ _ _ HS6.out HV6.out HF4.out
end Go.Proofs.YtmeihdjcifhcpaaDoor
