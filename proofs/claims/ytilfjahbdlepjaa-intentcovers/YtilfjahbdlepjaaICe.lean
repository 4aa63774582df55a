/- IntentCovers, a piece: walks over the program. -/
import Derived.Test.YtilfjahbdlepjaaICb
import Derived.Test.YtilfjahbdlepjaaItC
namespace Go.Proofs.Ytilfjahbdlepjaa
open Go.RowKit Go.Maps
set_option linter.unusedVariables false in
set_option maxRecDepth 1000000 in
set_option maxHeartbeats 4000000 in
theorem c_last (wide n1 c1 p b g : Nat) (a1 : Option Addr) (w : World) (k q N : Nat) (t : Itn) (u2 u3 u4 u5 u6 u7 u8 u10 u14 u15 u16 u17 u18 u19 u20 u21 u22 u23 u24 u25 u26 u27 u28 u29 u30 u31 u32 u33 u34 u35 u36 u37 u38 u39 u40 u41 u42 u43 u44 u45 u46 u47 u48 u49 u50 u51 u52 u53 u54 u55 u56 u57 u58 u59 u60 u61 u62 u63 u64 u65 u66 u67 u68 u69 u70 u71 u72 u73 u74 u75 u76 u77 u78 u79 u80 u81 u82 u83 u84 u85 u86 u87 u88 u89 u90 u91 u92 u93 u94 u95 u96 u97 u98 u99 u100 u101 u102 u103 u104 u105 u106 u107 u108 u109 u110 u111 u112 u113 u114 u115 u116 u117 u118 u119 u120 u121 u122 u123 u124 u125 u126 u127 u128 u129 u130 u131 u132 u133 u134 u135 u136 u137 u138 u139 u140 u141 u142 u143 u144 u145 u146 u147 u148 u149 u150 u151 u152 u153 u154 u155 u156 u157 u158 u159 u160 u161 u162 u163 u164 u165 u166 u167 u168 u169 u170 u171 u172 u173 u174 u175 u176 u177 u178 u179 u180 u181 u182 u183 u184 u185 u186 u187 u188 u189 u190 u191 u192 u193 u194 u195 u196 u197 u198 u199 u200 u201 u202 u203 u204 u205 u206 u207 u208 u209 u210 u211 u212 u213 u214 u215 u216 u217 u218 u219 u220 u221 : Value) (wc : World) (Q : Exit → Act → World → Prop)
    (h1 : 1 ≤ wide) (h2 : wide ≤ 40) (hN : N ≤ 900) (hS : CX w p b g wide t N wc)
    (hQ : ∀ (x4 x20 x21 x22 x191 x192 x193 x194 x195 x196 x197 x198 x199 x200 x201 x202 x203 x204 x205 x206 x207 x208 x209 : Value)  (w1 : World), CX w p b g wide t N w1 → Q .normal ⟨#[.int .i64 wide, .slice a1 n1 c1, u2, u3, x4, u5, u6, u7, u8, .pointer (some ⟨p, 0, none⟩), u10, .pointer (some ⟨g, 0, none⟩), .int .i64 ((k : Nat) : Int), .pointer (some ⟨q, 0, none⟩), u14, u15, u16, u17, u18, u19, x20, x21, x22, u23, u24, u25, u26, u27, u28, u29, u30, u31, u32, u33, u34, u35, u36, u37, u38, u39, u40, u41, u42, u43, u44, u45, u46, u47, u48, u49, u50, u51, u52, u53, u54, u55, u56, u57, u58, u59, u60, u61, u62, u63, u64, u65, u66, u67, u68, u69, u70, u71, u72, u73, u74, u75, u76, u77, u78, u79, u80, u81, u82, u83, u84, u85, u86, u87, u88, u89, u90, u91, u92, u93, u94, u95, u96, u97, u98, u99, u100, u101, u102, u103, u104, u105, u106, u107, u108, u109, u110, u111, u112, u113, u114, u115, u116, u117, u118, u119, u120, u121, u122, u123, u124, u125, u126, u127, u128, u129, u130, u131, u132, u133, u134, u135, u136, u137, u138, u139, u140, u141, u142, u143, u144, u145, u146, u147, u148, u149, u150, u151, u152, u153, u154, u155, u156, u157, u158, u159, u160, u161, u162, u163, u164, u165, u166, u167, u168, u169, u170, u171, u172, u173, u174, u175, u176, u177, u178, u179, u180, u181, u182, u183, u184, u185, u186, u187, u188, u189, u190, x191, x192, x193, x194, x195, x196, x197, x198, x199, x200, x201, x202, x203, x204, x205, x206, x207, x208, x209, u210, u211, u212, u213, u214, u215, u216, u217, u218, u219, u220, u221], []⟩ w1) :
    Code.wp Try.prog (cut [1, 1, 1, 1, 1, 1, 1, 1, 1, 1, 0, 1, 2, 5, 1, 0, 2, 1, 1, 1] (Try.f3.body.getD .skip)) Q ⟨#[.int .i64 wide, .slice a1 n1 c1, u2, u3, u4, u5, u6, u7, u8, .pointer (some ⟨p, 0, none⟩), u10, .pointer (some ⟨g, 0, none⟩), .int .i64 ((k : Nat) : Int), .pointer (some ⟨q, 0, none⟩), u14, u15, u16, u17, u18, u19, u20, u21, u22, u23, u24, u25, u26, u27, u28, u29, u30, u31, u32, u33, u34, u35, u36, u37, u38, u39, u40, u41, u42, u43, u44, u45, u46, u47, u48, u49, u50, u51, u52, u53, u54, u55, u56, u57, u58, u59, u60, u61, u62, u63, u64, u65, u66, u67, u68, u69, u70, u71, u72, u73, u74, u75, u76, u77, u78, u79, u80, u81, u82, u83, u84, u85, u86, u87, u88, u89, u90, u91, u92, u93, u94, u95, u96, u97, u98, u99, u100, u101, u102, u103, u104, u105, u106, u107, u108, u109, u110, u111, u112, u113, u114, u115, u116, u117, u118, u119, u120, u121, u122, u123, u124, u125, u126, u127, u128, u129, u130, u131, u132, u133, u134, u135, u136, u137, u138, u139, u140, u141, u142, u143, u144, u145, u146, u147, u148, u149, u150, u151, u152, u153, u154, u155, u156, u157, u158, u159, u160, u161, u162, u163, u164, u165, u166, u167, u168, u169, u170, u171, u172, u173, u174, u175, u176, u177, u178, u179, u180, u181, u182, u183, u184, u185, u186, u187, u188, u189, u190, u191, u192, u193, u194, u195, u196, u197, u198, u199, u200, u201, u202, u203, u204, u205, u206, u207, u208, u209, u210, u211, u212, u213, u214, u215, u216, u217, u218, u219, u220, u221], []⟩ wc := by
  conv => arg 2; whnf
  have HQ : Hid _ := hQ
  have HS : Hid (CX w p b g wide t N wc) := hS
  have D := idirty hS.1.il.int
  have hl40 : t.list.length ≤ 40 := Itn.listTo_len t 40
  clear hQ hS
  have hwz : ((wide : Int) == 0) = false := by simp; omega
  have hw40 : (wide : Int) ≤ 40 := by omega
  go_wp2_with fail
  refine D.mono ?_
  rintro e w2 ⟨vd, rfl, hO, hB2⟩
  obtain ⟨ao, co, rfl⟩ := OwN.len hO
  have HI : Hid (∀ n : Nat, Calls Try.prog 10 #[.slice ao t.list.length co, .int .i64 (n : Int)] w2 fun e w' => e = .returned (.bool (decide (n ∈ t.list))) ∧ w' = w2) := fun n => in_any _ t.list n w2 hO.rd (by omega)
  have HS2 : Hid (CX w p b g wide t N w2) := ⟨HS.out.1.old hB2, HS.out.2⟩
  have HM : Hid (∀ c, c < 40 → w2.cell? ⟨g, c, none⟩ = some (.int .i64 ((t.many c : Nat) : Int))) := fun c hc => (HS2.out.1.row.2 c hc).1
  have HIn : Hid (∀ c, c < 40 → 0 < t.many c → c / wide ∈ t.list) := fun c hc hm => by
    have := HS.out.2.1.in_list hc hm
    unfold Itn.reg at this
    rw [HS.out.2.2] at this
    exact this
  have HLe : Hid (∀ c, t.many c ≤ N) := fun c => HS.out.1.il.int.le c
  clear D hO hB2 HS
  generalize t.list.length = ln at *
  go_wp2
  go_loop [21] (fun c => ∃ k : Nat, k ≤ 40 ∧ c = .int .i64 k) (fun c => 40 - (intOf c).toNat)
  case atStart => exact ⟨0, Nat.zero_le _, rfl⟩
  case round =>
    obtain ⟨c, hc, rfl⟩ := hrel
    by_cases hlt : c < 40
    · have hcz : (c : Int) < 40 := by omega
      have hcg := HM.out c hlt
      have hq := quo_nat c wide
      have hql : c / wide ≤ c := Nat.div_le_self _ _
      have C := HI.out (c / wide)
      have hqz : ((c / wide : Nat) : Int) < 40 := by omega
      have hq0 : (0 : Int) ≤ ((c / wide : Nat) : Int) := Int.natCast_nonneg _
      have q1 : (0 : Int) ≤ (c : Int) / (wide : Int) := by rw [hq]; exact hq0
      have q2 : (c : Int) / (wide : Int) < 40 := by rw [hq]; exact hqz
      have hle := HLe.out c
      by_cases hm : 0 < t.many c
      · rw [decide_eq_true (HIn.out c hlt hm)] at C
        have hmz : (0 : Int) < ((t.many c : Nat) : Int) := by omega
        have hmy : ((t.many c : Nat) : Int) ≤ 1000 := by omega
        clear hm hle
        generalize t.many c = mc at *
        generalize c / wide = rc at *
        go_wp2_with fail
        refine C.mono ?_
        rintro e w3 ⟨rfl, hw3⟩
        obtain rfl := hw3.symm
        clear C hw3
        go_wp2
        go_round
        case rel => exact ⟨c + 1, by omega, by go_num⟩
        case measure => simp [intOf]; omega
      · have hm0 : t.many c = 0 := by omega
        rw [hm0] at hcg
        generalize decide (c / wide ∈ t.list) = db at *
        clear hm hm0 hle
        generalize c / wide = rc at *
        go_wp2_with fail
        refine C.mono ?_
        rintro e w3 ⟨rfl, hw3⟩
        obtain rfl := hw3.symm
        clear C hw3
        go_wp2
        go_round
        case rel => exact ⟨c + 1, by omega, by go_num⟩
        case measure => simp [intOf]; omega
    · have hcz : (40 : Int) ≤ (c : Int) := by omega
      go_wp2
      exact HQ.out _ _ _ _ _ _ _ _ _ _ _ _ _ _ _ _ _ _ _ _ _ _ _ _ HS2.out
end Go.Proofs.Ytilfjahbdlepjaa
