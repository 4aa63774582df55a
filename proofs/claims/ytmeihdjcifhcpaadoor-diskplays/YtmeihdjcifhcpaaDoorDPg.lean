/- DiskPlays, a piece: walks over the program. -/
import Derived.Test.YtmeihdjcifhcpaaDoorDPa
import Derived.Deep.Cut
import Derived.Deep.CutRange
namespace Go.Proofs.YtmeihdjcifhcpaaDoor
open Go.RowKit El Pol
set_option linter.unusedVariables false in
set_option maxRecDepth 1000000 in
set_option maxHeartbeats 4000000 in
theorem tv (rows size n2 c2 p g cap q : Nat) (a2 : Option Addr) (d : Dsk) (f : Nat → List El) (k : Nat) (w : World) (L : Nat → Nat) (F : Nat → Nat → Int) (u3 u4 u5 u6 u7 u9 u10 u12 u13 u14 u17 u18 u19 u20 u21 u22 u23 u24 u25 u26 u27 u28 u29 u30 u31 u32 u33 u34 u35 u36 u37 u38 u39 u40 u41 u42 u43 u44 u45 u46 u47 u48 u49 u50 u51 u52 u53 u54 u55 u56 u57 u58 u59 u60 u61 u62 u63 u64 u65 u66 u67 u68 u69 u70 u71 u72 u73 u74 u75 u76 u77 u78 u79 u80 u81 u82 u83 u84 u85 u86 u87 u88 u89 u90 u91 u92 u93 u94 u95 u96 u97 u98 u99 u100 u101 u102 u103 u104 u105 u106 u107 u108 u109 u110 u111 u112 u113 u114 u115 u116 u117 u118 u119 u120 u121 u122 u123 u124 u125 u126 u127 u128 u129 u130 u131 u132 u133 u134 u135 u136 u137 u138 u139 u140 u141 u142 u143 u144 u145 u146 u147 u148 u149 u150 u151 u152 u153 u154 u155 u156 u157 u158 u159 u160 u161 u162 u163 u164 u165 u166 u167 u168 u169 u170 u171 u172 u173 u174 u175 u176 u177 u178 u179 u180 u181 u182 u183 u184 u185 u186 u187 u188 u189 u190 u191 u192 u193 u194 u195 u196 u197 u198 u199 u200 u201 u202 u203 u204 u205 u206 u207 u208 u209 u210 u211 u212 u213 u214 u215 u216 u217 u218 u219 u220 u221 u222 u223 u224 u225 u226 u227 u228 u229 u230 u231 u232 u233 u234 : Value) (wc : World) (Q : Exit → Act → World → Prop)
    (hS : St w p g rows wc d f) (hV : Vv w p g q wc (fun _ => 0)) (r2 : RdII w (.slice a2 n2 c2) n2 L F) (hk : k < n2)
    (hQ : ∀ (x17 x75 x76 x77 x78 x79 x80 x81 x82 x83 x84 x85 x86 x87 x88 x89 x90 x91 x92 x93 x94 x95 x96 : Value)  (w1 : World), St w p g rows w1 d f → Vv w p g q w1 (vF L F k) → Q .normal ⟨#[.int .i64 rows, .int .i64 size, .slice a2 n2 c2, u3, u4, u5, u6, u7, .pointer (some ⟨p, 0, none⟩), u9, u10, .slice (some ⟨g, 0, none⟩) rows cap, u12, u13, u14, .int .i64 ((k : Nat) : Int), .pointer (some ⟨q, 0, none⟩), x17, u18, u19, u20, u21, u22, u23, u24, u25, u26, u27, u28, u29, u30, u31, u32, u33, u34, u35, u36, u37, u38, u39, u40, u41, u42, u43, u44, u45, u46, u47, u48, u49, u50, u51, u52, u53, u54, u55, u56, u57, u58, u59, u60, u61, u62, u63, u64, u65, u66, u67, u68, u69, u70, u71, u72, u73, u74, x75, x76, x77, x78, x79, x80, x81, x82, x83, x84, x85, x86, x87, x88, x89, x90, x91, x92, x93, x94, x95, x96, u97, u98, u99, u100, u101, u102, u103, u104, u105, u106, u107, u108, u109, u110, u111, u112, u113, u114, u115, u116, u117, u118, u119, u120, u121, u122, u123, u124, u125, u126, u127, u128, u129, u130, u131, u132, u133, u134, u135, u136, u137, u138, u139, u140, u141, u142, u143, u144, u145, u146, u147, u148, u149, u150, u151, u152, u153, u154, u155, u156, u157, u158, u159, u160, u161, u162, u163, u164, u165, u166, u167, u168, u169, u170, u171, u172, u173, u174, u175, u176, u177, u178, u179, u180, u181, u182, u183, u184, u185, u186, u187, u188, u189, u190, u191, u192, u193, u194, u195, u196, u197, u198, u199, u200, u201, u202, u203, u204, u205, u206, u207, u208, u209, u210, u211, u212, u213, u214, u215, u216, u217, u218, u219, u220, u221, u222, u223, u224, u225, u226, u227, u228, u229, u230, u231, u232, u233, u234], []⟩ w1) :
    Code.wp Tryd.prog (cut [1, 1, 1, 1, 1, 1, 1, 1, 1, 1, 0, 1, 2, 5, 1, 0, 2, 1, 0] (Tryd.f5.body.getD .skip)) Q ⟨#[.int .i64 rows, .int .i64 size, .slice a2 n2 c2, u3, u4, u5, u6, u7, .pointer (some ⟨p, 0, none⟩), u9, u10, .slice (some ⟨g, 0, none⟩) rows cap, u12, u13, u14, .int .i64 ((k : Nat) : Int), .pointer (some ⟨q, 0, none⟩), u17, u18, u19, u20, u21, u22, u23, u24, u25, u26, u27, u28, u29, u30, u31, u32, u33, u34, u35, u36, u37, u38, u39, u40, u41, u42, u43, u44, u45, u46, u47, u48, u49, u50, u51, u52, u53, u54, u55, u56, u57, u58, u59, u60, u61, u62, u63, u64, u65, u66, u67, u68, u69, u70, u71, u72, u73, u74, u75, u76, u77, u78, u79, u80, u81, u82, u83, u84, u85, u86, u87, u88, u89, u90, u91, u92, u93, u94, u95, u96, u97, u98, u99, u100, u101, u102, u103, u104, u105, u106, u107, u108, u109, u110, u111, u112, u113, u114, u115, u116, u117, u118, u119, u120, u121, u122, u123, u124, u125, u126, u127, u128, u129, u130, u131, u132, u133, u134, u135, u136, u137, u138, u139, u140, u141, u142, u143, u144, u145, u146, u147, u148, u149, u150, u151, u152, u153, u154, u155, u156, u157, u158, u159, u160, u161, u162, u163, u164, u165, u166, u167, u168, u169, u170, u171, u172, u173, u174, u175, u176, u177, u178, u179, u180, u181, u182, u183, u184, u185, u186, u187, u188, u189, u190, u191, u192, u193, u194, u195, u196, u197, u198, u199, u200, u201, u202, u203, u204, u205, u206, u207, u208, u209, u210, u211, u212, u213, u214, u215, u216, u217, u218, u219, u220, u221, u222, u223, u224, u225, u226, u227, u228, u229, u230, u231, u232, u233, u234], []⟩ wc := by
  conv => arg 2; whnf
  have HQ : Hid _ := hQ
  clear hQ
  obtain ⟨rv, h1, h2⟩ := r2
  obtain ⟨ad, ha, hc⟩ := h1.at k hk
  subst ha
  have h3 := h2 k hk
  obtain ⟨ao, cap', hrv, hl1, hl2⟩ := h3.len
  rw [hrv] at h3 hc
  have HC : Hid (∀ j, j < L k → ∃ ad', ao = some ad' ∧ w.cell? (ad'.add j) = some (.int .i64 (F k j))) := fun j hj => h3.at j hj
  have hcl := World.block_lt_of_cell? w _ hc
  have HS : Hid (St w p g rows wc d f) := hS
  have HV : Hid (Vv w p g q wc (fun _ => 0)) := hV
  have hkn : (k : Int) < (n2 : Int) := by omega
  clear h1 h2 h3 hS hV hrv
  obtain ⟨m, hm⟩ : ∃ m, L k = m := ⟨_, rfl⟩
  rw [hm] at hc HC hl1
  go_wp2
  go_loopw [17] (fun t wr => ∃ (j : Nat) (u : Nat → Int), j ≤ m ∧ j ≤ 4 ∧ t = .int .i64 j ∧ St w p g rows wr d f ∧ Vv w p g q wr u ∧ ∀ x, x < 4 → u x = if x < j then F k x else 0) (fun t _ => 4 - (intOf t).toNat)
  case atStart => exact ⟨0, _, Nat.zero_le _, Nat.zero_le _, rfl, HS.out, HV.out, fun x _ => by rw [if_neg (by omega)]⟩
  case round =>
    obtain ⟨j, u, hj1, hj2, rfl, hS1, hV1, hu⟩ := hrel
    have HU : Hid (∀ x, x < 4 → u x = if x < j then F k x else 0) := hu
    have hc1 := (hS1.low.cell hcl).trans hc
    have HS1 : Hid (St w p g rows wr d f) := hS1
    have HV1 : Hid (Vv w p g q wr u) := hV1
    clear hu
    by_cases hlt : j < m
    · by_cases hlt4 : j < 4
      · obtain ⟨ad', he, hc2⟩ := HC.out j hlt
        subst he
        have hc3 := (hS1.low.cell (World.block_lt_of_cell? w _ hc2)).trans hc2
        obtain ⟨q1, q2⟩ := hV1.row.2 j hlt4
        have S2 := hS1.onV hV1 j (.int .i64 (F k j))
        have V2 := hV1.put j (F k j) (fun x => if x = j then F k j else u x) (fun _ _ => rfl)
        have HS2 : Hid (St w p g rows (wr.setCell ⟨q, j, none⟩ (.int .i64 (F k j))) d f) := S2
        have HV2 : Hid (Vv w p g q (wr.setCell ⟨q, j, none⟩ (.int .i64 (F k j))) (fun x => if x = j then F k j else u x)) := V2
        have HU2 : Hid (∀ x, x < 4 → (fun x => if x = j then F k j else u x) x = if x < j + 1 then F k x else 0) := fun x hx => by
          show (if x = j then F k j else u x) = _
          by_cases e : x = j
          · rw [if_pos e, if_pos (by omega), e]
          · rw [if_neg e, HU.out x hx]
            by_cases e2 : x < j
            · rw [if_pos e2, if_pos (by omega)]
            · rw [if_neg e2, if_neg (by omega)]
        have hjm : (j : Int) < (m : Int) := by omega
        have hj4 : (j : Int) < 4 := by omega
        have hl1' : (m : Int) ≤ 9223372036854775807 := by omega
        clear S2 V2 hS1 hV1 hc hc2 hm
        generalize F k j = y at *
        go_wp2
        go_roundw
        case rel => exact ⟨j + 1, _, by omega, by omega, by go_num, HS2.out, HV2.out, HU2.out⟩
        case measure => simp [intOf]; omega
      · have HV3 : Hid (Vv w p g q wr (vF L F k)) := ⟨hV1.row.congr (fun x hx => by
          show Value.int .i64 (u x) = .int .i64 (if x < L k then F k x else 0)
          rw [HU.out x hx, if_pos (by omega), if_pos (by omega)]), hV1.hq, hV1.np, hV1.ng⟩
        clear hS1 hV1 hc hm
        have hj4 : (4 : Int) ≤ (j : Int) := by omega
        have hjm : (j : Int) < (m : Int) := by omega
        go_wp2
        exact HQ.out _ _ _ _ _ _ _ _ _ _ _ _ _ _ _ _ _ _ _ _ _ _ _ _ HS1.out HV3.out
    · have HV3 : Hid (Vv w p g q wr (vF L F k)) := ⟨hV1.row.congr (fun x hx => by
        show Value.int .i64 (u x) = .int .i64 (if x < L k then F k x else 0)
        rw [HU.out x hx]
        by_cases e : x < j
        · rw [if_pos e, if_pos (by omega)]
        · rw [if_neg e, if_neg (by omega)]), hV1.hq, hV1.np, hV1.ng⟩
      clear hS1 hV1 hc hm
      have hjm : (m : Int) ≤ (j : Int) := by omega
      go_wp2
      exact HQ.out _ _ _ _ _ _ _ _ _ _ _ _ _ _ _ _ _ _ _ _ _ _ _ _ HS1.out HV3.out

set_option linter.unusedVariables false in
set_option maxRecDepth 1000000 in
set_option maxHeartbeats 4000000 in
theorem tend (rows size n2 c2 p g cap q : Nat) (a2 : Option Addr) (d : Dsk) (f : Nat → List El) (v : Nat → Int) (w : World) (u3 u4 u5 u6 u9 u12 u15 u17 u18 u19 u21 u22 u23 u24 u25 u26 u27 u28 u29 u30 u31 u32 u33 u34 u35 u36 u37 u38 u39 u40 u41 u42 u43 u44 u45 u46 u47 u48 u49 u50 u51 u52 u53 u54 u55 u56 u57 u58 u59 u60 u61 u62 u63 u64 u65 u66 u67 u68 u69 u70 u71 u72 u73 u74 u75 u76 u77 u78 u79 u80 u81 u82 u83 u84 u85 u86 u87 u88 u89 u90 u91 u92 u93 u94 u95 u96 u97 u98 u99 u100 u101 u102 u103 u104 u105 u106 u107 u108 u109 u110 u111 u112 u113 u114 u115 u116 u117 u118 u119 u120 u121 u122 u123 u124 u125 u126 u127 u128 u129 u130 u131 u132 u133 u134 u135 u136 u137 u138 u139 u140 u141 u142 u143 u144 u145 u146 u147 u148 u149 u150 u151 u152 u153 u154 u155 u156 u157 u158 u159 u160 u161 u162 u163 u164 u165 u166 u167 u168 u169 u170 u171 u172 u173 u174 u175 u176 u177 u178 u179 u180 u181 u182 u183 u184 u185 u186 u187 u188 u189 u190 u191 u192 u193 u194 u195 u196 u197 u198 u199 u200 u201 u202 u203 u204 u205 u206 u207 u208 u209 u210 u211 u212 u213 u214 u215 u216 u217 u218 u219 u220 u221 u222 u223 u224 u225 u226 u227 u228 u229 u230 u231 u232 u233 u234 : Value) (wc : World) (Q : Exit → Act → World → Prop)
    (hS : St w p g rows wc d f) (hV : Vv w p g q wc v) (hR : d.rows = rows) (hK' : d.ok) (HG : Hid (Handle w))
    (hQ : ∀ (x21 x22 x23 x201 x202 x203 x204 x205 x206 x207 x208 x209 x210 x211 x212 x213 x214 x215 x216 x217 x218 x219 x220 x221 x222 x223 x224 x225 x226 x227 x228 x229 x230 x231 x232 x233 x234 : Value)  (w1 : World), St w p g rows w1 d f → Q .normal ⟨#[.int .i64 rows, .int .i64 size, .slice a2 n2 c2, u3, u4, u5, u6, .int .i64 ((d.readE (v 1) : Nat) : Int), .pointer (some ⟨p, 0, none⟩), u9, .bool true, .slice (some ⟨g, 0, none⟩) rows cap, u12, .bool d.failed, .int .i64 d.writes, u15, .pointer (some ⟨q, 0, none⟩), u17, u18, u19, st (d.readT (v 1)), x21, x22, x23, u24, u25, u26, u27, u28, u29, u30, u31, u32, u33, u34, u35, u36, u37, u38, u39, u40, u41, u42, u43, u44, u45, u46, u47, u48, u49, u50, u51, u52, u53, u54, u55, u56, u57, u58, u59, u60, u61, u62, u63, u64, u65, u66, u67, u68, u69, u70, u71, u72, u73, u74, u75, u76, u77, u78, u79, u80, u81, u82, u83, u84, u85, u86, u87, u88, u89, u90, u91, u92, u93, u94, u95, u96, u97, u98, u99, u100, u101, u102, u103, u104, u105, u106, u107, u108, u109, u110, u111, u112, u113, u114, u115, u116, u117, u118, u119, u120, u121, u122, u123, u124, u125, u126, u127, u128, u129, u130, u131, u132, u133, u134, u135, u136, u137, u138, u139, u140, u141, u142, u143, u144, u145, u146, u147, u148, u149, u150, u151, u152, u153, u154, u155, u156, u157, u158, u159, u160, u161, u162, u163, u164, u165, u166, u167, u168, u169, u170, u171, u172, u173, u174, u175, u176, u177, u178, u179, u180, u181, u182, u183, u184, u185, u186, u187, u188, u189, u190, u191, u192, u193, u194, u195, u196, u197, u198, u199, u200, x201, x202, x203, x204, x205, x206, x207, x208, x209, x210, x211, x212, x213, x214, x215, x216, x217, x218, x219, x220, x221, x222, x223, x224, x225, x226, x227, x228, x229, x230, x231, x232, x233, x234], []⟩ w1) :
    Code.wp Tryd.prog (cut [1, 1, 1, 1, 1, 1, 1, 1, 1, 1, 0, 1, 2, 5, 1, 0, 2, 1, 1, 1, 1, 1, 1, 1, 1] (Tryd.f5.body.getD .skip)) Q ⟨#[.int .i64 rows, .int .i64 size, .slice a2 n2 c2, u3, u4, u5, u6, .int .i64 ((d.readE (v 1) : Nat) : Int), .pointer (some ⟨p, 0, none⟩), u9, .bool true, .slice (some ⟨g, 0, none⟩) rows cap, u12, .bool d.failed, .int .i64 d.writes, u15, .pointer (some ⟨q, 0, none⟩), u17, u18, u19, st (d.readT (v 1)), u21, u22, u23, u24, u25, u26, u27, u28, u29, u30, u31, u32, u33, u34, u35, u36, u37, u38, u39, u40, u41, u42, u43, u44, u45, u46, u47, u48, u49, u50, u51, u52, u53, u54, u55, u56, u57, u58, u59, u60, u61, u62, u63, u64, u65, u66, u67, u68, u69, u70, u71, u72, u73, u74, u75, u76, u77, u78, u79, u80, u81, u82, u83, u84, u85, u86, u87, u88, u89, u90, u91, u92, u93, u94, u95, u96, u97, u98, u99, u100, u101, u102, u103, u104, u105, u106, u107, u108, u109, u110, u111, u112, u113, u114, u115, u116, u117, u118, u119, u120, u121, u122, u123, u124, u125, u126, u127, u128, u129, u130, u131, u132, u133, u134, u135, u136, u137, u138, u139, u140, u141, u142, u143, u144, u145, u146, u147, u148, u149, u150, u151, u152, u153, u154, u155, u156, u157, u158, u159, u160, u161, u162, u163, u164, u165, u166, u167, u168, u169, u170, u171, u172, u173, u174, u175, u176, u177, u178, u179, u180, u181, u182, u183, u184, u185, u186, u187, u188, u189, u190, u191, u192, u193, u194, u195, u196, u197, u198, u199, u200, u201, u202, u203, u204, u205, u206, u207, u208, u209, u210, u211, u212, u213, u214, u215, u216, u217, u218, u219, u220, u221, u222, u223, u224, u225, u226, u227, u228, u229, u230, u231, u232, u233, u234], []⟩ wc := by
  conv => arg 2; whnf
  have c1 := hV.at 1 (by omega)
  have R := dread hS.dsk hK' (v 1)
  have HQ : Hid _ := hQ
  have HS : Hid (St w p g rows wc d f) := hS
  have E := fun w1 (h : St w p g rows w1 d f) => err_v (d.readE (v 1)) w1 (HG.out.old h.low)
  clear hQ hV hS hR hK'
  generalize d.readE (v 1) = ke at *
  generalize d.readT (v 1) = t at *
  generalize v 1 = z at *
  go_wp2_with fail
  refine R.mono ?_
  rintro e1 wa ⟨rfl, n1, rfl⟩
  have HS1 : Hid (St w p g rows (wc.drewN n1) d f) := HS.out.drewN n1
  have E1 := E _ HS1.out
  clear R E c1 HS
  generalize wc.drewN n1 = wa at *
  go_wp2_with fail
  refine E1.mono ?_
  rintro e2 wb ⟨rfl, b2⟩
  have S2 := HS1.out.old b2
  have HS2 : Hid (St w p g rows wb d f) := S2
  have W := dworks S2.dsk
  have N := dwrites S2.dsk
  clear E1 b2 S2 HS1
  go_wp2_with fail
  refine W.mono ?_
  rintro e3 wx ⟨rfl, hwx⟩
  obtain rfl := hwx.symm
  clear W hwx
  generalize d.failed = df at *
  generalize d.writes = dw at *
  go_wp2_with fail
  refine N.mono ?_
  rintro e3 wx ⟨rfl, hwx⟩
  obtain rfl := hwx.symm
  clear N hwx
  go_wp2
  exact HQ.out _ _ _ _ _ _ _ _ _ _ _ _ _ _ _ _ _ _ _ _ _ _ _ _ _ _ _ _ _ _ _ _ _ _ _ _ _ _ HS2.out
end Go.Proofs.YtmeihdjcifhcpaaDoor
